/- The walk of CursorReads: what any script of readings tells is what the reference tells. -/
import Derived.Test.YtdpcmhgmgkelhaaOps
namespace Go.Proofs.Ytdpcmhgmgkelhaa
open Go.RowKit

theorem sBytes_len {n : Int} {ys l : List Int} {q : Nat} {c : Int} (h : sBytes n ys = (l, q, c)) : l.length ≤ ys.length := by
  unfold sBytes at h
  split at h
  · simp only [Prod.mk.injEq] at h; rw [← h.1]; simp
  · split at h
    · simp only [Prod.mk.injEq] at h; rw [← h.1]; simp
    · simp only [Prod.mk.injEq] at h; rw [← h.1, List.length_take]; omega
theorem sBlock_len {n : Int} {ys l : List Int} {q : Nat} {c : Int} (h : sBlock n ys = (l, q, c)) : l.length ≤ ys.length := by
  unfold sBlock at h
  repeat' split at h
  all_goals (simp only [Prod.mk.injEq] at h; rw [← h.1])
  all_goals first | (simp; done) | (rw [List.length_take, List.length_drop]; omega)

set_option maxHeartbeats 4000000 in
set_option maxRecDepth 100000 in
/-- CursorReads ANSWERS TRUE. -/
theorem reads_walk (vb vo : Value) (bs : List Int) (os : List (Int × Int)) (w : World) (hb : Bs .u8 w vb bs) (nb : NoCap vb) (hr : ∀ y ∈ bs, 0 ≤ y ∧ y ≤ 255) (ho : Ops w vo os) (hN : ∀ x ∈ os, x.2 ≤ 9223372036854775807) :
    Calls Try.prog 3 #[vb, vo] w fun e w' => e = .returned (.bool true) ∧ Below w.heap.size w w' := by
  have A := hideIt (awake_any w)
  obtain ⟨ab, cb, rfl⟩ := hb.len
  obtain ⟨ap, cp, rfl⟩ := ho.len
  have HB := hideIt (And.intro hb (And.intro nb hr))
  have HO := hideIt (And.intro ho hN)
  obtain ⟨L, hL⟩ : ∃ L, L = bs.length := ⟨_, rfl⟩
  obtain ⟨K, hK⟩ : ∃ K, K = os.length := ⟨_, rfl⟩
  rw [← hL] at HB
  rw [← hL]
  rw [← hK] at HO
  rw [← hK]
  have HL := hideIt hL
  have HK := hideIt hK
  clear hb nb hr ho hN hL hK
  by_cases hl : 500 < (L : Int)
  · go_enter Try.func3, Try.ntmps3
    go_wp2_with fail
    refine A.out.mono ?_
    rintro e w1 ⟨rfl, ho⟩
    have O := hideIt (ho.low (Nat.le_refl _))
    clear ho
    go_wp2
    go_ret
    exact ⟨rfl, O.out⟩
  have dl : decide (500 < (L : Int)) = false := decide_eq_false hl
  by_cases hk2 : 200 < (K : Int)
  · go_enter Try.func3, Try.ntmps3
    go_wp2_with fail
    refine A.out.mono ?_
    rintro e w1 ⟨rfl, ho⟩
    have O := hideIt (ho.low (Nat.le_refl _))
    clear ho
    go_wp2
    go_ret
    exact ⟨rfl, O.out⟩
  have dk2 : decide (200 < (K : Int)) = false := decide_eq_false hk2
  go_enter Try.func3, Try.ntmps3
  go_wp2_with fail
  refine A.out.mono ?_
  rintro e w1 ⟨rfl, ho1⟩
  have NS := hideIt (new_st (w0 := w) (ho1.low (Nat.le_refl _)) _ bs (HB.out.1.keep ho1 (fun _ _ f => f)) HB.out.2.2 (by have := HL.out; omega))
  clear ho1 A
  go_wp2_with fail
  refine NS.out.mono ?_
  rintro e w2 ⟨R, rfl, hs2, _, _⟩
  have S2 := hideIt (And.intro hs2 (HB.out.1.later hs2.below))
  clear hs2 NS
  go_wp2
  go_loopw [7, 8] (fun o i wr => ∃ (k m : Nat) (ao : Option Addr) (cap : Nat) (ys : List Int), k ≤ K ∧ i = .int .i64 k ∧ o = .slice ao m cap ∧ m ≤ 500 ∧ Bs .u8 wr (.slice ao m cap) ys ∧ NoCap (.slice ao m cap) ∧ St w wr R ys) (fun _ i _ => K - (intOf i).toNat)
  case atStart => exact ⟨0, L, ab, cb, bs, Nat.zero_le _, rfl, rfl, by omega, S2.out.2, HB.out.2.1, S2.out.1⟩
  case round =>
    obtain ⟨k, m, ao, cap, ys, hk, rfl, rfl, hm, hbs, hnc, hst⟩ := hrel
    clear S2
    have HM := hideIt hbs.length
    by_cases hlt : k < K
    · obtain ⟨b, off, hao, hc0, hc1⟩ := HO.out.1.at k (by rw [← HK.out]; exact hlt)
      subst hao
      have hd0 := (hst.below.cell (p := ⟨b, off + k * 2, none⟩) (World.block_lt_of_cell? w _ hc0)).trans hc0
      have hd1 := (hst.below.cell (p := ⟨b, off + k * 2 + 1, none⟩) (World.block_lt_of_cell? w _ hc1)).trans hc1
      have hN : (os.getD k (0, 0)).2 ≤ 9223372036854775807 := by
        refine HO.out.2 _ ?_
        have hkk : k < os.length := by rw [← HK.out]; exact hlt
        rw [List.getD_eq_getElem?_getD, List.getElem?_eq_getElem hkk]
        exact List.getElem_mem hkk
      generalize (os.getD k (0, 0)).1 = t at hd0
      generalize (os.getD k (0, 0)).2 = n at hd1 hN
      clear hc0 hc1
      have i0 : (0 : Int) ≤ (k : Int) := by omega
      have i1 : (k : Int) < (K : Int) := by omega
      have hrng := hideIt hst.rng
      by_cases t0 : t = 0
      · subst t0
        obtain ⟨a, q, c, hs⟩ : ∃ a q c, sByte ys = (a, q, c) := ⟨_, _, _, rfl⟩
        have CA := hideIt (byte_st hst hs)
        have HS := hideIt (And.intro hs (And.intro hst (And.intro hbs hnc)))
        clear hs hst hbs hnc
        go_wp2_with fail
        refine CA.out.mono ?_
        rintro e wa ⟨rfl, hsta, hona⟩
        have RA := hideIt (rbyte_bs ao m cap ys wa (HS.out.2.1.past hona HS.out.2.2.1) HS.out.2.2.2 (by omega) HS.out.1)
        have STA := hideIt hsta
        clear CA hsta hona
        go_wp2_with fail
        refine RA.out.mono ?_
        rintro e wb ⟨ao', m', cap', rfl, hb', hn', hob⟩
        have HM' := hideIt hb'.length
        have hm' : m' ≤ 500 := by
          have h1 := HM'.out
          rw [List.length_drop] at h1
          have h2 := HM.out
          omega
        have S := hideIt (STA.out.keep hob)
        have U := hideIt (And.intro hb' hn')
        have daa : (a != a) = false := by simp
        have dcc : (c != c) = false := by simp
        clear hb' hn' hob RA STA HS

        have LF := left_st S.out
        rw [← HM'.out] at LF
        have LF' := hideIt LF
        have dmm : ((m' : Int) != (m' : Int)) = false := by simp
        clear LF
        by_cases hz : m' = 0
        · subst hz
          have EN := end_st S.out
          rw [show endV (ys.drop q) = 0 from if_neg (by rw [← HM'.out]; omega)] at EN
          have EN' := hideIt EN
          clear EN
          go_wp2_with fail
          refine LF'.out.mono ?_
          rintro e wt ⟨rfl, rfl⟩
          go_wp2_with fail
          refine EN'.out.mono ?_
          rintro e wt ⟨rfl, rfl⟩
          go_wp2
          go_roundw
          case rel => exact ⟨k + 1, 0, ao', cap', ys.drop q, by omega, by go_num, rfl, by omega, U.out.1, U.out.2, S.out⟩
          case measure => simp [intOf]; omega
        · have EN := end_st S.out
          rw [show endV (ys.drop q) = 3 from if_pos (by rw [← HM'.out]; omega)] at EN
          have EN' := hideIt EN
          have dz : ((m' : Int) == 0) = false := by simp; omega
          clear EN
          go_wp2_with fail
          refine LF'.out.mono ?_
          rintro e wt ⟨rfl, rfl⟩
          go_wp2_with fail
          refine EN'.out.mono ?_
          rintro e wt ⟨rfl, rfl⟩
          go_wp2
          go_roundw
          case rel => exact ⟨k + 1, m', ao', cap', ys.drop q, by omega, by go_num, rfl, by omega, U.out.1, U.out.2, S.out⟩
          case measure => simp [intOf]; omega
      by_cases t1 : t = 1
      · subst t1
        obtain ⟨a, q, c, hs⟩ : ∃ a q c, sFixed n ys = (a, q, c) := ⟨_, _, _, rfl⟩
        have CA := hideIt (fixed_st hst n hs)
        have HS := hideIt (And.intro hs (And.intro hst (And.intro hbs hnc)))
        clear hs hst hbs hnc
        go_wp2_with fail
        refine CA.out.mono ?_
        rintro e wa ⟨rfl, hsta, hona⟩
        have RA := hideIt (rfixed_bs ao m cap ys wa (HS.out.2.1.past hona HS.out.2.2.1) HS.out.2.2.2 hrng.out (by omega) n HS.out.1)
        have STA := hideIt hsta
        clear CA hsta hona
        go_wp2_with fail
        refine RA.out.mono ?_
        rintro e wb ⟨ao', m', cap', rfl, hb', hn', hob⟩
        have HM' := hideIt hb'.length
        have hm' : m' ≤ 500 := by
          have h1 := HM'.out
          rw [List.length_drop] at h1
          have h2 := HM.out
          omega
        have S := hideIt (STA.out.keep hob)
        have U := hideIt (And.intro hb' hn')
        have daa : (a != a) = false := by simp
        have dcc : (c != c) = false := by simp
        clear hb' hn' hob RA STA HS

        have LF := left_st S.out
        rw [← HM'.out] at LF
        have LF' := hideIt LF
        have dmm : ((m' : Int) != (m' : Int)) = false := by simp
        clear LF
        by_cases hz : m' = 0
        · subst hz
          have EN := end_st S.out
          rw [show endV (ys.drop q) = 0 from if_neg (by rw [← HM'.out]; omega)] at EN
          have EN' := hideIt EN
          clear EN
          go_wp2_with fail
          refine LF'.out.mono ?_
          rintro e wt ⟨rfl, rfl⟩
          go_wp2_with fail
          refine EN'.out.mono ?_
          rintro e wt ⟨rfl, rfl⟩
          go_wp2
          go_roundw
          case rel => exact ⟨k + 1, 0, ao', cap', ys.drop q, by omega, by go_num, rfl, by omega, U.out.1, U.out.2, S.out⟩
          case measure => simp [intOf]; omega
        · have EN := end_st S.out
          rw [show endV (ys.drop q) = 3 from if_pos (by rw [← HM'.out]; omega)] at EN
          have EN' := hideIt EN
          have dz : ((m' : Int) == 0) = false := by simp; omega
          clear EN
          go_wp2_with fail
          refine LF'.out.mono ?_
          rintro e wt ⟨rfl, rfl⟩
          go_wp2_with fail
          refine EN'.out.mono ?_
          rintro e wt ⟨rfl, rfl⟩
          go_wp2
          go_roundw
          case rel => exact ⟨k + 1, m', ao', cap', ys.drop q, by omega, by go_num, rfl, by omega, U.out.1, U.out.2, S.out⟩
          case measure => simp [intOf]; omega
      by_cases t2 : t = 2
      · subst t2
        obtain ⟨a, q, c, hs⟩ : ∃ a q c, sVarint ys = (a, q, c) := ⟨_, _, _, rfl⟩
        have CA := hideIt (varint_st hst hs)
        have HS := hideIt (And.intro hs (And.intro hst (And.intro hbs hnc)))
        clear hs hst hbs hnc
        go_wp2_with fail
        refine CA.out.mono ?_
        rintro e wa ⟨rfl, hsta, hona⟩
        have RA := hideIt (rvarint_bs ao m cap ys wa (HS.out.2.1.past hona HS.out.2.2.1) HS.out.2.2.2 hrng.out HS.out.1)
        have STA := hideIt hsta
        clear CA hsta hona
        go_wp2_with fail
        refine RA.out.mono ?_
        rintro e wb ⟨ao', m', cap', rfl, hb', hn', hob⟩
        have HM' := hideIt hb'.length
        have hm' : m' ≤ 500 := by
          have h1 := HM'.out
          rw [List.length_drop] at h1
          have h2 := HM.out
          omega
        have S := hideIt (STA.out.keep hob)
        have U := hideIt (And.intro hb' hn')
        have daa : (a != a) = false := by simp
        have dcc : (c != c) = false := by simp
        clear hb' hn' hob RA STA HS

        have LF := left_st S.out
        rw [← HM'.out] at LF
        have LF' := hideIt LF
        have dmm : ((m' : Int) != (m' : Int)) = false := by simp
        clear LF
        by_cases hz : m' = 0
        · subst hz
          have EN := end_st S.out
          rw [show endV (ys.drop q) = 0 from if_neg (by rw [← HM'.out]; omega)] at EN
          have EN' := hideIt EN
          clear EN
          go_wp2_with fail
          refine LF'.out.mono ?_
          rintro e wt ⟨rfl, rfl⟩
          go_wp2_with fail
          refine EN'.out.mono ?_
          rintro e wt ⟨rfl, rfl⟩
          go_wp2
          go_roundw
          case rel => exact ⟨k + 1, 0, ao', cap', ys.drop q, by omega, by go_num, rfl, by omega, U.out.1, U.out.2, S.out⟩
          case measure => simp [intOf]; omega
        · have EN := end_st S.out
          rw [show endV (ys.drop q) = 3 from if_pos (by rw [← HM'.out]; omega)] at EN
          have EN' := hideIt EN
          have dz : ((m' : Int) == 0) = false := by simp; omega
          clear EN
          go_wp2_with fail
          refine LF'.out.mono ?_
          rintro e wt ⟨rfl, rfl⟩
          go_wp2_with fail
          refine EN'.out.mono ?_
          rintro e wt ⟨rfl, rfl⟩
          go_wp2
          go_roundw
          case rel => exact ⟨k + 1, m', ao', cap', ys.drop q, by omega, by go_num, rfl, by omega, U.out.1, U.out.2, S.out⟩
          case measure => simp [intOf]; omega
      by_cases t3 : t = 3
      · subst t3
        obtain ⟨l, q, c, hs⟩ : ∃ l q c, sBytes n ys = (l, q, c) := ⟨_, _, _, rfl⟩
        have CA := hideIt (bytes_st hst n hs)
        have HS := hideIt (And.intro hs (And.intro hst (And.intro hbs hnc)))
        clear hs hst hbs hnc
        go_wp2_with fail
        refine CA.out.mono ?_
        rintro e wa ⟨v1, rfl, hv1, _, _, hsta, hona⟩
        have RA := hideIt (rbytes_bs ao m cap ys wa (HS.out.2.1.past hona HS.out.2.2.1) HS.out.2.2.2 (by omega) n HS.out.1)
        have STA := hideIt (And.intro hsta hv1)
        clear CA hsta hona hv1
        go_wp2_with fail
        refine RA.out.mono ?_
        rintro e wb ⟨v2, ao', m', cap', rfl, hv2, hb', hn', hob⟩
        have HM' := hideIt hb'.length
        have hm' : m' ≤ 500 := by
          have h1 := HM'.out
          rw [List.length_drop] at h1
          have h2 := HM.out
          omega
        have SM := hideIt (lsame_eq v1 v2 l wb (STA.out.2.keep hob (fun _ _ f => f)) hv2 (by have h1 := sBytes_len HS.out.1; have := HM.out; omega))
        have S0 := hideIt (STA.out.1.keep hob)
        have U0 := hideIt (And.intro hb' hn')
        have dcc : (c != c) = false := by simp
        clear hb' hn' hob RA STA HS hv2
        go_wp2_with fail
        refine SM.out.mono ?_
        rintro e wc ⟨rfl, hoc⟩
        have S := hideIt (S0.out.keep hoc)
        have U := hideIt (And.intro (U0.out.1.keep hoc (fun _ _ f => f)) U0.out.2)
        clear hoc S0 U0 SM

        have LF := left_st S.out
        rw [← HM'.out] at LF
        have LF' := hideIt LF
        have dmm : ((m' : Int) != (m' : Int)) = false := by simp
        clear LF
        by_cases hz : m' = 0
        · subst hz
          have EN := end_st S.out
          rw [show endV (ys.drop q) = 0 from if_neg (by rw [← HM'.out]; omega)] at EN
          have EN' := hideIt EN
          clear EN
          go_wp2_with fail
          refine LF'.out.mono ?_
          rintro e wt ⟨rfl, rfl⟩
          go_wp2_with fail
          refine EN'.out.mono ?_
          rintro e wt ⟨rfl, rfl⟩
          go_wp2
          go_roundw
          case rel => exact ⟨k + 1, 0, ao', cap', ys.drop q, by omega, by go_num, rfl, by omega, U.out.1, U.out.2, S.out⟩
          case measure => simp [intOf]; omega
        · have EN := end_st S.out
          rw [show endV (ys.drop q) = 3 from if_pos (by rw [← HM'.out]; omega)] at EN
          have EN' := hideIt EN
          have dz : ((m' : Int) == 0) = false := by simp; omega
          clear EN
          go_wp2_with fail
          refine LF'.out.mono ?_
          rintro e wt ⟨rfl, rfl⟩
          go_wp2_with fail
          refine EN'.out.mono ?_
          rintro e wt ⟨rfl, rfl⟩
          go_wp2
          go_roundw
          case rel => exact ⟨k + 1, m', ao', cap', ys.drop q, by omega, by go_num, rfl, by omega, U.out.1, U.out.2, S.out⟩
          case measure => simp [intOf]; omega
      have e0 : (t == 0) = false := by simp; omega
      have e1 : (t == 1) = false := by simp; omega
      have e2 : (t == 2) = false := by simp; omega
      have e3 : (t == 3) = false := by simp; omega
      clear t0 t1 t2 t3
      obtain ⟨l, q, c, hs⟩ : ∃ l q c, sBlock n ys = (l, q, c) := ⟨_, _, _, rfl⟩
      have CA := hideIt (block_st hst n hN hs)
      have HS := hideIt (And.intro hs (And.intro hst (And.intro hbs hnc)))
      clear hs hst hbs hnc
      go_wp2_with fail
      refine CA.out.mono ?_
      rintro e wa ⟨v1, rfl, hv1, _, _, hsta, hona⟩
      have RA := hideIt (rblock_bs ao m cap ys wa (HS.out.2.1.past hona HS.out.2.2.1) HS.out.2.2.2 hrng.out (by omega) n hN HS.out.1)
      have STA := hideIt (And.intro hsta hv1)
      clear CA hsta hona hv1
      go_wp2_with fail
      refine RA.out.mono ?_
      rintro e wb ⟨v2, ao', m', cap', rfl, hv2, hb', hn', hob⟩
      have HM' := hideIt hb'.length
      have hm' : m' ≤ 500 := by
        have h1 := HM'.out
        rw [List.length_drop] at h1
        have h2 := HM.out
        omega
      have SM := hideIt (lsame_eq v1 v2 l wb (STA.out.2.keep hob (fun _ _ f => f)) hv2 (by have h1 := sBlock_len HS.out.1; have := HM.out; omega))
      have S0 := hideIt (STA.out.1.keep hob)
      have U0 := hideIt (And.intro hb' hn')
      have dcc : (c != c) = false := by simp
      clear hb' hn' hob RA STA HS hv2
      go_wp2_with fail
      refine SM.out.mono ?_
      rintro e wc ⟨rfl, hoc⟩
      have S := hideIt (S0.out.keep hoc)
      have U := hideIt (And.intro (U0.out.1.keep hoc (fun _ _ f => f)) U0.out.2)
      clear hoc S0 U0 SM

      have LF := left_st S.out
      rw [← HM'.out] at LF
      have LF' := hideIt LF
      have dmm : ((m' : Int) != (m' : Int)) = false := by simp
      clear LF
      by_cases hz : m' = 0
      · subst hz
        have EN := end_st S.out
        rw [show endV (ys.drop q) = 0 from if_neg (by rw [← HM'.out]; omega)] at EN
        have EN' := hideIt EN
        clear EN
        go_wp2_with fail
        refine LF'.out.mono ?_
        rintro e wt ⟨rfl, rfl⟩
        go_wp2_with fail
        refine EN'.out.mono ?_
        rintro e wt ⟨rfl, rfl⟩
        go_wp2
        go_roundw
        case rel => exact ⟨k + 1, 0, ao', cap', ys.drop q, by omega, by go_num, rfl, by omega, U.out.1, U.out.2, S.out⟩
        case measure => simp [intOf]; omega
      · have EN := end_st S.out
        rw [show endV (ys.drop q) = 3 from if_pos (by rw [← HM'.out]; omega)] at EN
        have EN' := hideIt EN
        have dz : ((m' : Int) == 0) = false := by simp; omega
        clear EN
        go_wp2_with fail
        refine LF'.out.mono ?_
        rintro e wt ⟨rfl, rfl⟩
        go_wp2_with fail
        refine EN'.out.mono ?_
        rintro e wt ⟨rfl, rfl⟩
        go_wp2
        go_roundw
        case rel => exact ⟨k + 1, m', ao', cap', ys.drop q, by omega, by go_num, rfl, by omega, U.out.1, U.out.2, S.out⟩
        case measure => simp [intOf]; omega
    · have OB := hideIt hst.below
      clear hst hbs hnc
      go_wp2
      go_ret
      exact ⟨rfl, OB.out⟩
end Go.Proofs.Ytdpcmhgmgkelhaa
