/- The reference for a list of ints: Decode. -/
import Derived.Test.YtgbimghhdbmjiaaGreatRd8b
import Derived.Test.YtgbimghhdbmjiaaGreatG8
namespace Go.Proofs.YtgbimghhdbmjiaaGreat
open Go.RowKit

set_option maxHeartbeats 400000 in
set_option maxRecDepth 100000 in
theorem rdecode8_arg (v : Value) (n : Int) (w : World) (h : n < 0 ∨ 65536 < n) :
    Calls Tryz.prog 6 #[v, .int .i64 n] w fun e w' => e = .returned (.tuple #[.slice none 0 0, .int .i64 1]) ∧ w = w' := by
  by_cases h0 : n < 0
  · have d0 : decide (n < 0) = true := decide_eq_true h0
    clear h h0
    go_enter Tryz.func6, Tryz.ntmps6
    go_wp2
    try rw [Exit.noGoto_ret]
    go_ret2
    exact ⟨rfl, rfl⟩
  · have d0 : decide (n < 0) = false := decide_eq_false h0
    have d1 : decide (65536 < n) = true := decide_eq_true (by omega)
    clear h h0
    go_enter Tryz.func6, Tryz.ntmps6
    go_wp2
    try rw [Exit.noGoto_ret]
    go_ret2
    exact ⟨rfl, rfl⟩
set_option maxHeartbeats 400000 in
set_option maxRecDepth 100000 in
theorem rdecode8_nil (v : Value) (n : Nat) (w : World) (h : Bs .u8 w v []) (hn : n ≤ 65536) :
    Calls Tryz.prog 6 #[v, .int .i64 n] w fun e w' => e = .returned (.tuple #[.slice none 0 0, .int .i64 2]) ∧ w = w' := by
  have d0 : decide ((n : Int) < 0) = false := by simp
  have d1 : decide ((65536 : Int) < (n : Int)) = false := decide_eq_false (by omega)
  obtain ⟨ao, cap, e0⟩ := h.len
  rw [List.length_nil] at e0
  subst e0
  clear h hn
  go_enter Tryz.func6, Tryz.ntmps6
  go_wp2
  try rw [Exit.noGoto_ret]
  go_ret2
  exact ⟨rfl, rfl⟩
set_option maxHeartbeats 400000 in
set_option maxRecDepth 100000 in
theorem rdecode8_tag (v : Value) (t : Nat) (r : List Int) (n : Nat) (w : World) (h : Bs .u8 w v ((t : Int) :: r)) (hn : n ≤ 65536) (h4 : 4 < t) (h255 : t ≤ 255) :
    Calls Tryz.prog 6 #[v, .int .i64 n] w fun e w' => e = .returned (.tuple #[.slice none 0 0, .int .i64 3]) ∧ w = w' := by
  have d0 : decide ((n : Int) < 0) = false := by simp
  have d1 : decide ((65536 : Int) < (n : Int)) = false := decide_eq_false (by omega)
  obtain ⟨b, off, cap, rfl, cell0⟩ := h.at 0 (by simp)
  rw [Nat.add_zero, List.getD_cons_zero] at cell0
  have d3 : decide ((4 : Int) < (t : Int)) = true := decide_eq_true (by omega)
  have t255 : (t : Int) ≤ 255 := by omega
  have d4 : ((((t : Int) :: r).length : Int) == 0) = false := by rw [beq_eq_false_iff_ne, List.length_cons]; omega
  have hN : (0 : Int) < (((t : Int) :: r).length : Int) := by rw [List.length_cons]; omega
  generalize ((t : Int) :: r).length = N at *
  clear h hn h4 h255
  go_enter Tryz.func6, Tryz.ntmps6
  go_wp2
  try rw [Exit.noGoto_ret]
  go_ret2
  exact ⟨rfl, rfl⟩

set_option maxHeartbeats 3200000 in
set_option maxRecDepth 100000 in
theorem rdecode8_zero (v : Value) (t : Nat) (r : List Int) (n : Nat) (w : World) (h : Bs .u8 w v ((t : Int) :: r)) (hr : Byt r) (hl : r.length ≤ 300) (hn : n ≤ 600) (ht : t = 0) :
    Calls Tryz.prog 6 #[v, .int .i64 n] w fun e w' => ∃ u, e = .returned (.tuple #[u, .int .i64 (RDEC8 ((t : Int) :: r) n).2]) ∧ Bs .i64 w' u (RDEC8 ((t : Int) :: r) n).1 ∧ Only (fun _ => False) w w' := by
  obtain ⟨i0, hi, hz0, hz1, hz2⟩ := info_parts Tryz.infoI64
  have d0 : decide ((n : Int) < 0) = false := by simp
  have d1 : decide ((65536 : Int) < (n : Int)) = false := decide_eq_false (by omega)
  have HBZ0 := hideIt h
  obtain ⟨b, off, cap, ev, cell0⟩ := h.at 0 (by simp)
  subst ev
  rw [Nat.add_zero, List.getD_cons_zero] at cell0
  have d3 : decide ((4 : Int) < (t : Int)) = false := decide_eq_false (by omega)
  have t255 : (t : Int) ≤ 255 := by omega
  have dt0 : ((t : Int) == 0) = true := by rw [ht]; rfl
  have dt1 : decide ((1 : Int) ≤ (t : Int)) = false := decide_eq_false (by omega)
  have RA : Hid (∀ (u : Value), Bs .u8 w u r → NoCap u → Calls Tryz.prog 15 #[u, .int .i64 n, .int .i64 t] w fun e w' => ∃ u', e = .returned (.tuple #[u', .int .i64 (RR r n t).2]) ∧ Bs .u64 w' u' (RR r n t).1 ∧ NoCap u' ∧ Only (fun _ => False) w w') :=
    fun u hb hnc => rread_any u r n t w hb hnc hr hl (by omega) (by omega)
  have HOK : Hid ((RR r n t).2 = 0 → U64 (RR r n t).1 ∧ (RR r n t).1.length = n) := fun h0 => RR_ok hr h0
  have eD : RDEC8 ((t : Int) :: r) n = if (RR r n t).2 ≠ 0 then ([], (RR r n t).2) else if (ENC8 (RI (RR r n t).1 t)).1 = (t : Int) :: r then (RI (RR r n t).1 t, 0) else ([], 3) := by
    unfold RDEC8
    rw [if_neg (by omega), if_neg (by simp), List.getD_cons_zero, if_neg (by omega)]
    rfl
  obtain ⟨DD, hDD⟩ : ∃ DD, DD = RDEC8 ((t : Int) :: r) n := ⟨_, rfl⟩
  obtain ⟨zs, hzs⟩ : ∃ zs, zs = (t : Int) :: r := ⟨_, rfl⟩
  obtain ⟨N, hN⟩ : ∃ N, N = ((t : Int) :: r).length := ⟨_, rfl⟩
  rw [← hDD] at eD ⊢
  rw [← hzs] at eD
  rw [← hN] at HBZ0 ⊢
  have HBZ : Hid (Bs .u8 w (.slice (some ⟨b, off, none⟩) N cap) zs) := by rw [hzs]; exact HBZ0.out
  have hcapN : N ≤ cap := by
    obtain ⟨ao', cap', e2, hc, _⟩ := HBZ0.out
    rw [← hN] at hc
    simp at e2
    omega
  have hNr : N = r.length + 1 := by rw [hN]; rfl
  have d4 : ((N : Int) == 0) = false := by rw [beq_eq_false_iff_ne]; omega
  have hN1 : 1 ≤ N := by omega
  have HRT1 : Hid (cap = 1 → Bs .u8 w (.slice (some ⟨b, off, none⟩) 0 0) r) := fun hc => by
    have e1 : N = 1 := by omega
    have := HBZ0.out
    rw [hc, e1] at this
    have := this.cut0 (n := 1) (by omega)
    simpa using this
  have HRT2 : Hid (Bs .u8 w (.slice (some ((⟨b, off, none⟩ : Addr).add 1)) (N - 1) (cap - 1)) r) := by
    simp only [Hid]
    have := HBZ0.out.cut (n := 1) hN1
    simpa using this
  generalize RR r n t = R at *
  obtain ⟨z, c⟩ := R
  simp only at RA HOK eD
  clear h hr hl HBZ0 hDD hzs hN hNr
  have j0 : (1 : Int) ≤ (N : Int) := by omega
  have j1 : (1 : Int) ≤ (cap : Int) := by omega
  have j2 : (0 : Int) < (N : Int) := by omega
  by_cases hc : c = 0
  · subst hc
    obtain ⟨hzu, hzl⟩ := HOK.out rfl
    have HZU := hideIt hzu
    have HZL := hideIt hzl
    rw [if_neg (by simp)] at eD
    have hRI : RI z t = z.map s64 := by unfold RI; rw [if_pos ht]
    rw [hRI] at eD
    obtain ⟨L, hL⟩ : ∃ L, L = z.map s64 := ⟨_, rfl⟩
    rw [← hL] at eD
    have HDD := hideIt eD
    have HL := hideIt hL
    have HLI : Hid (I64s L) := by simp only [Hid]; rw [hL]; exact fun x hx => by simp only [List.mem_map] at hx; obtain ⟨y, _, rfl⟩ := hx; exact s64_g y
    have HLL : Hid (L.length = n) := by simp only [Hid]; rw [hL, List.length_map, HZL.out]
    clear hRI eD hL hzu hzl HOK ht
    by_cases hcc : cap = 1
    · subst hcc
      obtain rfl : N = 1 := by omega
      have RD := hideIt (RA.out _ (HRT1.out rfl) (NoCap.some _ _ _))
      clear RA HRT1 HRT2
      go_enter Tryz.func6, Tryz.ntmps6
      go_wp2_with fail
      refine RD.out.mono ?_
      rintro e w2 ⟨u2, rfl, b2, n2, o2⟩
      have O2 := hideIt o2
      have HBS := hideIt b2
      obtain ⟨fz, cz, ez⟩ := b2.len
      rw [HZL.out] at ez
      subst ez
      clear RD b2 n2 o2
      go_wp2
      go_loopw [9, 10] (fun s i wr => ∃ k : Nat, k ≤ n ∧ i = .int .i64 k ∧ wr.ownsRow w2.heap.size 3 1 s k (((z.take k).map s64).map (Value.int .i64)) ∧ Only (fun _ => False) w2 wr) (fun _ i _ => n - (intOf i).toNat)
      case atStart => exact ⟨0, Nat.zero_le _, rfl, World.ownsRow_nil _ _ _ _, Only.refl _ _⟩
      case round =>
        obtain ⟨k, hk, rfl, hown, hon⟩ := hrel
        have HOWN := hideIt hown
        have HON := hideIt hon
        by_cases hlt : k < n
        · have dlt : decide ((k : Int) < (n : Int)) = true := by simp; omega
          have hkl : k < z.length := by rw [HZL.out]; exact hlt
          obtain ⟨bz, offz, capz, e1, hc0⟩ := (HBS.out.past hon).at k hkl
          have ea : fz = some ⟨bz, offz, none⟩ := by simp at e1; exact e1.1
          subst ea
          clear e1
          have hx := HZU.out (z.getD k 0) (getD_mem0 z k hkl)
          have HST : Hid (((z.take (k + 1)).map s64).map (Value.int .i64) = ((z.take k).map s64).map (Value.int .i64) ++ [.int .i64 (s64 (z.getD k 0))]) := by
            simp only [Hid]; rw [take_snoc z k hkl]; simp [s64]
          have HX : Hid (∀ x : Int, IntKind.i64.wrap x = s64 x) := fun x => by unfold s64 wrap64; exact IntKind.wrap_i64 x
          generalize z.getD k 0 = x at *
          have own2 := HOWN.out
          have hsz := HON.out.size
          clear hown hon hkl
          go_wp2_with (at_builtin; refine wpList_append_lies _ rfl _ _ _ rfl w2.heap.size 3 i0 (.int .i64 0) 1 8 Tryz.underlying24 hi hz0 hz1 hz2 rfl (by omega) _ k _ rfl (own2.alloc _) ⟨wr.heap.size, 0, none⟩ 1 1 [.int .i64 (s64 x)] rfl rfl ?c1 ?c2 (by omega) ?c3 ?c4 ?c5 (wr.heap.size + 1) (by simp) ?_)
          case c1 => first | exact cell_one_new _ _ _ | (rw [← HX.out x]; exact cell_one_new _ _ _)
          case c2 => intro u hu; simp at hu; subst hu; rfl
          case c3 => unfold maxLen; omega
          case c4 => omega
          case c5 => simp; omega
          intro gg cap1 w3 hown1 hgrow hat hg1
          have o3 := hideIt ((HON.out.alloc _).grown hgrow (fun p hp0 hp => absurd (own2.lt p hp).1 (by omega)))
          have own3 : Hid (w3.ownsRow w2.heap.size 3 1 (.slice (some ⟨gg, 0, none⟩) (k + 1) cap1) (k + 1) (((z.take (k + 1)).map s64).map (Value.int .i64))) := by
            simp only [Hid]
            rw [HST.out]; first | exact hown1 | (rw [List.map_map]; exact hown1) | (rw [List.map_map, List.map_take]; exact hown1)
          clear own2 hown1 hgrow hat
          go_wp2
          go_roundw
          case rel => exact ⟨k + 1, by omega, by go_num, own3.out, o3.out⟩
          case measure => simp [intOf]; omega
        · obtain rfl : k = n := by omega
          have dlt : decide ((k : Int) < (k : Int)) = false := by simp
          have OWZ : Hid (wr.ownsRow w.heap.size 3 1 u9 k ((z.map s64).map (Value.int .i64))) := by
            have h1 := own_low HOWN.out O2.out.size
            rw [List.take_of_length_le (by rw [HZL.out]; exact Nat.le_refl _)] at h1
            exact h1
          have ONZ := hideIt (O2.out.same HON.out)
          clear hown hon HOWN
          have OWL : Hid (wr.ownsRow w.heap.size 3 1 u9 L.length (L.map (Value.int .i64))) := by
            simp only [Hid]; rw [HLL.out, HL.out]; exact OWZ.out
          have EN := rencode8_all u9 L wr (Bs.of_own OWL.out) (NoCap.of_own OWL.out) HLI.out (.inl (by rw [HLL.out]; omega))
          have HEL := hideIt (ENC8_len (l := L) (by rw [HLL.out]; omega)).1
          rw [HLL.out] at HEL
          generalize ENC8 L = E at *
          obtain ⟨E1, Ec⟩ := E
          simp only at EN HEL HDD
          have EN := hideIt EN
          obtain ⟨fL, cL, eL⟩ := (Bs.of_own OWL.out).len
          rw [HLL.out] at eL
          subst eL
          go_wp2_with fail
          refine EN.out.mono ?_
          rintro e wE ⟨uE, rfl, ownE, oE⟩
          have OE := hideIt (ONZ.out.same oE)
          have OWE := hideIt (oE.own OWL.out (fun _ _ f => f))
          have SM := hideIt (same_any uE (.slice (some ⟨b, off, none⟩) 1 1) E1 zs wE (Bs.of_own ownE) (HBZ.out.past OE.out) (by have := HEL.out; omega))
          obtain ⟨fE, cE, eE⟩ := (Bs.of_own ownE).len
          subst eE
          clear EN ownE oE
          by_cases heq : E1 = zs
          · have de : decide (E1 = zs) = true := decide_eq_true heq
            rw [de] at SM
            have eD := HDD.out
            rw [if_pos heq] at eD
            subst eD
            clear heq de HDD HEL
            generalize E1.length = e1 at *
            go_wp2_with fail
            refine SM.out.mono ?_
            rintro e wF ⟨rfl, oF⟩
            have OF := hideIt (OE.out.same oF)
            have OWF := hideIt (oF.own OWE.out (fun _ _ f => f))
            clear SM oF
            go_wp2
            try rw [Exit.noGoto_ret]
            go_ret2
            exact ⟨_, rfl, Bs.of_own OWF.out, OF.out⟩
          · have de : decide (E1 = zs) = false := decide_eq_false heq
            rw [de] at SM
            have eD := HDD.out
            rw [if_neg heq] at eD
            subst eD
            clear heq de HDD HEL
            generalize E1.length = e1 at *
            go_wp2_with fail
            refine SM.out.mono ?_
            rintro e wF ⟨rfl, oF⟩
            have OF := hideIt (OE.out.same oF)
            clear SM oF
            go_wp2
            try rw [Exit.noGoto_ret]
            go_ret2
            exact ⟨_, rfl, Bs.nil _ _, OF.out⟩
    · have hcx : ¬ ((cap : Int) - 1 = 0) := by omega
      have RD := hideIt (RA.out _ HRT2.out (NoCap.some _ _ _))
      clear RA HRT1 HRT2
      go_enter Tryz.func6, Tryz.ntmps6
      go_wp2_with fail
      refine RD.out.mono ?_
      rintro e w2 ⟨u2, rfl, b2, n2, o2⟩
      have O2 := hideIt o2
      have HBS := hideIt b2
      obtain ⟨fz, cz, ez⟩ := b2.len
      rw [HZL.out] at ez
      subst ez
      clear RD b2 n2 o2
      go_wp2
      go_loopw [9, 10] (fun s i wr => ∃ k : Nat, k ≤ n ∧ i = .int .i64 k ∧ wr.ownsRow w2.heap.size 3 1 s k (((z.take k).map s64).map (Value.int .i64)) ∧ Only (fun _ => False) w2 wr) (fun _ i _ => n - (intOf i).toNat)
      case atStart => exact ⟨0, Nat.zero_le _, rfl, World.ownsRow_nil _ _ _ _, Only.refl _ _⟩
      case round =>
        obtain ⟨k, hk, rfl, hown, hon⟩ := hrel
        have HOWN := hideIt hown
        have HON := hideIt hon
        by_cases hlt : k < n
        · have dlt : decide ((k : Int) < (n : Int)) = true := by simp; omega
          have hkl : k < z.length := by rw [HZL.out]; exact hlt
          obtain ⟨bz, offz, capz, e1, hc0⟩ := (HBS.out.past hon).at k hkl
          have ea : fz = some ⟨bz, offz, none⟩ := by simp at e1; exact e1.1
          subst ea
          clear e1
          have hx := HZU.out (z.getD k 0) (getD_mem0 z k hkl)
          have HST : Hid (((z.take (k + 1)).map s64).map (Value.int .i64) = ((z.take k).map s64).map (Value.int .i64) ++ [.int .i64 (s64 (z.getD k 0))]) := by
            simp only [Hid]; rw [take_snoc z k hkl]; simp [s64]
          have HX : Hid (∀ x : Int, IntKind.i64.wrap x = s64 x) := fun x => by unfold s64 wrap64; exact IntKind.wrap_i64 x
          generalize z.getD k 0 = x at *
          have own2 := HOWN.out
          have hsz := HON.out.size
          clear hown hon hkl
          go_wp2_with (at_builtin; refine wpList_append_lies _ rfl _ _ _ rfl w2.heap.size 3 i0 (.int .i64 0) 1 8 Tryz.underlying24 hi hz0 hz1 hz2 rfl (by omega) _ k _ rfl (own2.alloc _) ⟨wr.heap.size, 0, none⟩ 1 1 [.int .i64 (s64 x)] rfl rfl ?c1 ?c2 (by omega) ?c3 ?c4 ?c5 (wr.heap.size + 1) (by simp) ?_)
          case c1 => first | exact cell_one_new _ _ _ | (rw [← HX.out x]; exact cell_one_new _ _ _)
          case c2 => intro u hu; simp at hu; subst hu; rfl
          case c3 => unfold maxLen; omega
          case c4 => omega
          case c5 => simp; omega
          intro gg cap1 w3 hown1 hgrow hat hg1
          have o3 := hideIt ((HON.out.alloc _).grown hgrow (fun p hp0 hp => absurd (own2.lt p hp).1 (by omega)))
          have own3 : Hid (w3.ownsRow w2.heap.size 3 1 (.slice (some ⟨gg, 0, none⟩) (k + 1) cap1) (k + 1) (((z.take (k + 1)).map s64).map (Value.int .i64))) := by
            simp only [Hid]
            rw [HST.out]; first | exact hown1 | (rw [List.map_map]; exact hown1) | (rw [List.map_map, List.map_take]; exact hown1)
          clear own2 hown1 hgrow hat
          go_wp2
          go_roundw
          case rel => exact ⟨k + 1, by omega, by go_num, own3.out, o3.out⟩
          case measure => simp [intOf]; omega
        · obtain rfl : k = n := by omega
          have dlt : decide ((k : Int) < (k : Int)) = false := by simp
          have OWZ : Hid (wr.ownsRow w.heap.size 3 1 u9 k ((z.map s64).map (Value.int .i64))) := by
            have h1 := own_low HOWN.out O2.out.size
            rw [List.take_of_length_le (by rw [HZL.out]; exact Nat.le_refl _)] at h1
            exact h1
          have ONZ := hideIt (O2.out.same HON.out)
          clear hown hon HOWN
          have OWL : Hid (wr.ownsRow w.heap.size 3 1 u9 L.length (L.map (Value.int .i64))) := by
            simp only [Hid]; rw [HLL.out, HL.out]; exact OWZ.out
          have EN := rencode8_all u9 L wr (Bs.of_own OWL.out) (NoCap.of_own OWL.out) HLI.out (.inl (by rw [HLL.out]; omega))
          have HEL := hideIt (ENC8_len (l := L) (by rw [HLL.out]; omega)).1
          rw [HLL.out] at HEL
          generalize ENC8 L = E at *
          obtain ⟨E1, Ec⟩ := E
          simp only at EN HEL HDD
          have EN := hideIt EN
          obtain ⟨fL, cL, eL⟩ := (Bs.of_own OWL.out).len
          rw [HLL.out] at eL
          subst eL
          go_wp2_with fail
          refine EN.out.mono ?_
          rintro e wE ⟨uE, rfl, ownE, oE⟩
          have OE := hideIt (ONZ.out.same oE)
          have OWE := hideIt (oE.own OWL.out (fun _ _ f => f))
          have SM := hideIt (same_any uE (.slice (some ⟨b, off, none⟩) N cap) E1 zs wE (Bs.of_own ownE) (HBZ.out.past OE.out) (by have := HEL.out; omega))
          obtain ⟨fE, cE, eE⟩ := (Bs.of_own ownE).len
          subst eE
          clear EN ownE oE
          by_cases heq : E1 = zs
          · have de : decide (E1 = zs) = true := decide_eq_true heq
            rw [de] at SM
            have eD := HDD.out
            rw [if_pos heq] at eD
            subst eD
            clear heq de HDD HEL
            generalize E1.length = e1 at *
            go_wp2_with fail
            refine SM.out.mono ?_
            rintro e wF ⟨rfl, oF⟩
            have OF := hideIt (OE.out.same oF)
            have OWF := hideIt (oF.own OWE.out (fun _ _ f => f))
            clear SM oF
            go_wp2
            try rw [Exit.noGoto_ret]
            go_ret2
            exact ⟨_, rfl, Bs.of_own OWF.out, OF.out⟩
          · have de : decide (E1 = zs) = false := decide_eq_false heq
            rw [de] at SM
            have eD := HDD.out
            rw [if_neg heq] at eD
            subst eD
            clear heq de HDD HEL
            generalize E1.length = e1 at *
            go_wp2_with fail
            refine SM.out.mono ?_
            rintro e wF ⟨rfl, oF⟩
            have OF := hideIt (OE.out.same oF)
            clear SM oF
            go_wp2
            try rw [Exit.noGoto_ret]
            go_ret2
            exact ⟨_, rfl, Bs.nil _ _, OF.out⟩
  · rw [if_pos hc] at eD
    subst eD
    have dc : (c != 0) = true := by simp; exact hc
    clear HOK ht
    by_cases hcc : cap = 1
    · subst hcc
      obtain rfl : N = 1 := by omega
      have RD := hideIt (RA.out _ (HRT1.out rfl) (NoCap.some _ _ _))
      clear RA HRT1 HRT2
      go_enter Tryz.func6, Tryz.ntmps6
      go_wp2_with fail
      refine RD.out.mono ?_
      rintro e w2 ⟨u2, rfl, b2, n2, o2⟩
      have O2 := hideIt o2
      obtain ⟨fz, cz, ez⟩ := b2.len
      subst ez
      clear RD b2 n2 o2
      generalize z.length = zl at *
      go_wp2
      try rw [Exit.noGoto_ret]
      go_ret2
      exact ⟨_, rfl, Bs.nil _ _, O2.out⟩
    · have hcx : ¬ ((cap : Int) - 1 = 0) := by omega
      have RD := hideIt (RA.out _ HRT2.out (NoCap.some _ _ _))
      clear RA HRT1 HRT2
      go_enter Tryz.func6, Tryz.ntmps6
      go_wp2_with fail
      refine RD.out.mono ?_
      rintro e w2 ⟨u2, rfl, b2, n2, o2⟩
      have O2 := hideIt o2
      obtain ⟨fz, cz, ez⟩ := b2.len
      subst ez
      clear RD b2 n2 o2
      generalize z.length = zl at *
      go_wp2
      try rw [Exit.noGoto_ret]
      go_ret2
      exact ⟨_, rfl, Bs.nil _ _, O2.out⟩
set_option maxHeartbeats 3200000 in
set_option maxRecDepth 100000 in
theorem rdecode8_low (v : Value) (t : Nat) (r : List Int) (n : Nat) (w : World) (h : Bs .u8 w v ((t : Int) :: r)) (hr : Byt r) (hl : r.length ≤ 300) (hn : n ≤ 600) (ht : t = 1 ∨ t = 2) :
    Calls Tryz.prog 6 #[v, .int .i64 n] w fun e w' => ∃ u, e = .returned (.tuple #[u, .int .i64 (RDEC8 ((t : Int) :: r) n).2]) ∧ Bs .i64 w' u (RDEC8 ((t : Int) :: r) n).1 ∧ Only (fun _ => False) w w' := by
  obtain ⟨i0, hi, hz0, hz1, hz2⟩ := info_parts Tryz.infoI64
  have d0 : decide ((n : Int) < 0) = false := by simp
  have d1 : decide ((65536 : Int) < (n : Int)) = false := decide_eq_false (by omega)
  have HBZ0 := hideIt h
  obtain ⟨b, off, cap, ev, cell0⟩ := h.at 0 (by simp)
  subst ev
  rw [Nat.add_zero, List.getD_cons_zero] at cell0
  have d3 : decide ((4 : Int) < (t : Int)) = false := decide_eq_false (by omega)
  have t255 : (t : Int) ≤ 255 := by omega
  have dt0 : ((t : Int) == 0) = false := by rw [beq_eq_false_iff_ne]; omega
  have dt1 : decide ((1 : Int) ≤ (t : Int)) = true := decide_eq_true (by omega)
  have dt3 : decide ((3 : Int) ≤ (t : Int)) = false := decide_eq_false (by omega)
  have RA : Hid (∀ (u : Value), Bs .u8 w u r → NoCap u → Calls Tryz.prog 15 #[u, .int .i64 n, .int .i64 t] w fun e w' => ∃ u', e = .returned (.tuple #[u', .int .i64 (RR r n t).2]) ∧ Bs .u64 w' u' (RR r n t).1 ∧ NoCap u' ∧ Only (fun _ => False) w w') :=
    fun u hb hnc => rread_any u r n t w hb hnc hr hl (by omega) (by omega)
  have HOK : Hid ((RR r n t).2 = 0 → U64 (RR r n t).1 ∧ (RR r n t).1.length = n) := fun h0 => RR_ok hr h0
  have eD : RDEC8 ((t : Int) :: r) n = if (RR r n t).2 ≠ 0 then ([], (RR r n t).2) else if (ENC8 (RI (RR r n t).1 t)).1 = (t : Int) :: r then (RI (RR r n t).1 t, 0) else ([], 3) := by
    unfold RDEC8
    rw [if_neg (by omega), if_neg (by simp), List.getD_cons_zero, if_neg (by omega)]
    rfl
  obtain ⟨DD, hDD⟩ : ∃ DD, DD = RDEC8 ((t : Int) :: r) n := ⟨_, rfl⟩
  obtain ⟨zs, hzs⟩ : ∃ zs, zs = (t : Int) :: r := ⟨_, rfl⟩
  obtain ⟨N, hN⟩ : ∃ N, N = ((t : Int) :: r).length := ⟨_, rfl⟩
  rw [← hDD] at eD ⊢
  rw [← hzs] at eD
  rw [← hN] at HBZ0 ⊢
  have HBZ : Hid (Bs .u8 w (.slice (some ⟨b, off, none⟩) N cap) zs) := by rw [hzs]; exact HBZ0.out
  have hcapN : N ≤ cap := by
    obtain ⟨ao', cap', e2, hc, _⟩ := HBZ0.out
    rw [← hN] at hc
    simp at e2
    omega
  have hNr : N = r.length + 1 := by rw [hN]; rfl
  have d4 : ((N : Int) == 0) = false := by rw [beq_eq_false_iff_ne]; omega
  have hN1 : 1 ≤ N := by omega
  have HRT1 : Hid (cap = 1 → Bs .u8 w (.slice (some ⟨b, off, none⟩) 0 0) r) := fun hc => by
    have e1 : N = 1 := by omega
    have := HBZ0.out
    rw [hc, e1] at this
    have := this.cut0 (n := 1) (by omega)
    simpa using this
  have HRT2 : Hid (Bs .u8 w (.slice (some ((⟨b, off, none⟩ : Addr).add 1)) (N - 1) (cap - 1)) r) := by
    simp only [Hid]
    have := HBZ0.out.cut (n := 1) hN1
    simpa using this
  generalize RR r n t = R at *
  obtain ⟨z, c⟩ := R
  simp only at RA HOK eD
  clear h hr hl HBZ0 hDD hzs hN hNr
  have j0 : (1 : Int) ≤ (N : Int) := by omega
  have j1 : (1 : Int) ≤ (cap : Int) := by omega
  have j2 : (0 : Int) < (N : Int) := by omega
  by_cases hc : c = 0
  · subst hc
    obtain ⟨hzu, hzl⟩ := HOK.out rfl
    have HZU := hideIt hzu
    have HZL := hideIt hzl
    rw [if_neg (by simp)] at eD
    have hRI : RI z t = S 1 (zgn z) := by unfold RI; rw [if_neg (by omega), show tms t = 1 by unfold tms; rw [if_neg (by omega)]]
    rw [hRI] at eD
    obtain ⟨L, hL⟩ : ∃ L, L = S 1 (zgn z) := ⟨_, rfl⟩
    rw [← hL] at eD
    have HDD := hideIt eD
    have HL := hideIt hL
    have HLI : Hid (I64s L) := by simp only [Hid]; rw [hL]; exact S_g _ _ (zgn_i64 HZU.out)
    have HLL : Hid (L.length = n) := by simp only [Hid]; rw [hL, S_length, zgn_length, HZL.out]
    clear hRI eD hL hzu hzl HOK ht
    by_cases hcc : cap = 1
    · subst hcc
      obtain rfl : N = 1 := by omega
      have RD := hideIt (RA.out _ (HRT1.out rfl) (NoCap.some _ _ _))
      clear RA HRT1 HRT2
      go_enter Tryz.func6, Tryz.ntmps6
      go_wp2_with fail
      refine RD.out.mono ?_
      rintro e w2 ⟨u2, rfl, b2, n2, o2⟩
      have O2 := hideIt o2
      have HBS := hideIt b2
      obtain ⟨fz, cz, ez⟩ := b2.len
      rw [HZL.out] at ez
      subst ez
      clear RD b2 n2 o2
      go_wp2
      go_loopw [9, 10] (fun s i wr => ∃ k : Nat, k ≤ n ∧ i = .int .i64 k ∧ wr.ownsRow w2.heap.size 3 1 s k ((zgn (z.take k)).map (Value.int .i64)) ∧ Only (fun _ => False) w2 wr) (fun _ i _ => n - (intOf i).toNat)
      case atStart => exact ⟨0, Nat.zero_le _, rfl, World.ownsRow_nil _ _ _ _, Only.refl _ _⟩
      case round =>
        obtain ⟨k, hk, rfl, hown, hon⟩ := hrel
        have HOWN := hideIt hown
        have HON := hideIt hon
        by_cases hlt : k < n
        · have dlt : decide ((k : Int) < (n : Int)) = true := by simp; omega
          have hkl : k < z.length := by rw [HZL.out]; exact hlt
          obtain ⟨bz, offz, capz, e1, hc0⟩ := (HBS.out.past hon).at k hkl
          have ea : fz = some ⟨bz, offz, none⟩ := by simp at e1; exact e1.1
          subst ea
          clear e1
          have hx := HZU.out (z.getD k 0) (getD_mem0 z k hkl)
          have HST : Hid ((zgn (z.take (k + 1))).map (Value.int .i64) = (zgn (z.take k)).map (Value.int .i64) ++ [.int .i64 (zag (z.getD k 0))]) := by
            simp only [Hid]; rw [take_snoc z k hkl]; simp [zgn]
          have ZK := hideIt (rzag_any (z.getD k 0) wr hx.1 hx.2)
          generalize z.getD k 0 = x at *
          have own2 := HOWN.out
          have hsz := HON.out.size
          clear hown hon hkl
          go_wp2_with fail
          refine ZK.out.mono ?_
          rintro e w4 ⟨rfl, rfl⟩
          clear ZK
          generalize zag x = q at *
          go_wp2_with (at_builtin; refine wpList_append_lies _ rfl _ _ _ rfl w2.heap.size 3 i0 (.int .i64 0) 1 8 Tryz.underlying24 hi hz0 hz1 hz2 rfl (by omega) _ k _ rfl (own2.alloc _) ⟨wr.heap.size, 0, none⟩ 1 1 [.int .i64 q] rfl rfl ?c1 ?c2 (by omega) ?c3 ?c4 ?c5 (wr.heap.size + 1) (by simp) ?_)
          case c1 => exact cell_one_new _ _ _
          case c2 => intro u hu; simp at hu; subst hu; rfl
          case c3 => unfold maxLen; omega
          case c4 => omega
          case c5 => simp; omega
          intro gg cap1 w3 hown1 hgrow hat hg1
          have o3 := hideIt ((HON.out.alloc _).grown hgrow (fun p hp0 hp => absurd (own2.lt p hp).1 (by omega)))
          have own3 : Hid (w3.ownsRow w2.heap.size 3 1 (.slice (some ⟨gg, 0, none⟩) (k + 1) cap1) (k + 1) ((zgn (z.take (k + 1))).map (Value.int .i64))) := by
            simp only [Hid]
            rw [HST.out]; exact hown1
          clear own2 hown1 hgrow hat
          go_wp2
          go_roundw
          case rel => exact ⟨k + 1, by omega, by go_num, own3.out, o3.out⟩
          case measure => simp [intOf]; omega
        · obtain rfl : k = n := by omega
          have dlt : decide ((k : Int) < (k : Int)) = false := by simp
          have OWZ : Hid (wr.ownsRow w.heap.size 3 1 u9 k ((zgn z).map (Value.int .i64))) := by
            have h1 := own_low HOWN.out O2.out.size
            rw [List.take_of_length_le (by rw [HZL.out]; exact Nat.le_refl _)] at h1
            exact h1
          have ONZ := hideIt (O2.out.same HON.out)
          clear hown hon HOWN
          have hbz : Bs .i64 wr u9 (zgn z) := Bs.of_own (by rw [zgn_length, HZL.out]; exact OWZ.out)
          have SU := hideIt (rsum_in u9 (zgn z) 1 wr hbz (NoCap.of_own OWZ.out) (by rw [zgn_length, HZL.out]; omega) (zgn_i64 HZU.out) (by omega))
          obtain ⟨f9, c9, e9⟩ := hbz.len
          rw [zgn_length, HZL.out] at e9 SU
          subst e9
          clear hbz
          rw [← HL.out] at SU
          go_wp2_with fail
          refine SU.out.mono ?_
          rintro e wS ⟨uS, rfl, ownS, oS⟩
          have ONS := hideIt (ONZ.out.same oS)
          have OWL : Hid (wS.ownsRow w.heap.size 3 1 uS L.length (L.map (Value.int .i64))) := by
            simp only [Hid]; rw [HLL.out]; exact own_low ownS ONZ.out.size
          clear SU ownS oS
          have EN := rencode8_all uS L wS (Bs.of_own OWL.out) (NoCap.of_own OWL.out) HLI.out (.inl (by rw [HLL.out]; omega))
          have HEL := hideIt (ENC8_len (l := L) (by rw [HLL.out]; omega)).1
          rw [HLL.out] at HEL
          generalize ENC8 L = E at *
          obtain ⟨E1, Ec⟩ := E
          simp only at EN HEL HDD
          have EN := hideIt EN
          obtain ⟨fL, cL, eL⟩ := (Bs.of_own OWL.out).len
          rw [HLL.out] at eL
          subst eL
          go_wp2_with fail
          refine EN.out.mono ?_
          rintro e wE ⟨uE, rfl, ownE, oE⟩
          have OE := hideIt (ONS.out.same oE)
          have OWE := hideIt (oE.own OWL.out (fun _ _ f => f))
          have SM := hideIt (same_any uE (.slice (some ⟨b, off, none⟩) 1 1) E1 zs wE (Bs.of_own ownE) (HBZ.out.past OE.out) (by have := HEL.out; omega))
          obtain ⟨fE, cE, eE⟩ := (Bs.of_own ownE).len
          subst eE
          clear EN ownE oE
          by_cases heq : E1 = zs
          · have de : decide (E1 = zs) = true := decide_eq_true heq
            rw [de] at SM
            have eD := HDD.out
            rw [if_pos heq] at eD
            subst eD
            clear heq de HDD HEL
            generalize E1.length = e1 at *
            go_wp2_with fail
            refine SM.out.mono ?_
            rintro e wF ⟨rfl, oF⟩
            have OF := hideIt (OE.out.same oF)
            have OWF := hideIt (oF.own OWE.out (fun _ _ f => f))
            clear SM oF
            go_wp2
            try rw [Exit.noGoto_ret]
            go_ret2
            exact ⟨_, rfl, Bs.of_own OWF.out, OF.out⟩
          · have de : decide (E1 = zs) = false := decide_eq_false heq
            rw [de] at SM
            have eD := HDD.out
            rw [if_neg heq] at eD
            subst eD
            clear heq de HDD HEL
            generalize E1.length = e1 at *
            go_wp2_with fail
            refine SM.out.mono ?_
            rintro e wF ⟨rfl, oF⟩
            have OF := hideIt (OE.out.same oF)
            clear SM oF
            go_wp2
            try rw [Exit.noGoto_ret]
            go_ret2
            exact ⟨_, rfl, Bs.nil _ _, OF.out⟩
    · have hcx : ¬ ((cap : Int) - 1 = 0) := by omega
      have RD := hideIt (RA.out _ HRT2.out (NoCap.some _ _ _))
      clear RA HRT1 HRT2
      go_enter Tryz.func6, Tryz.ntmps6
      go_wp2_with fail
      refine RD.out.mono ?_
      rintro e w2 ⟨u2, rfl, b2, n2, o2⟩
      have O2 := hideIt o2
      have HBS := hideIt b2
      obtain ⟨fz, cz, ez⟩ := b2.len
      rw [HZL.out] at ez
      subst ez
      clear RD b2 n2 o2
      go_wp2
      go_loopw [9, 10] (fun s i wr => ∃ k : Nat, k ≤ n ∧ i = .int .i64 k ∧ wr.ownsRow w2.heap.size 3 1 s k ((zgn (z.take k)).map (Value.int .i64)) ∧ Only (fun _ => False) w2 wr) (fun _ i _ => n - (intOf i).toNat)
      case atStart => exact ⟨0, Nat.zero_le _, rfl, World.ownsRow_nil _ _ _ _, Only.refl _ _⟩
      case round =>
        obtain ⟨k, hk, rfl, hown, hon⟩ := hrel
        have HOWN := hideIt hown
        have HON := hideIt hon
        by_cases hlt : k < n
        · have dlt : decide ((k : Int) < (n : Int)) = true := by simp; omega
          have hkl : k < z.length := by rw [HZL.out]; exact hlt
          obtain ⟨bz, offz, capz, e1, hc0⟩ := (HBS.out.past hon).at k hkl
          have ea : fz = some ⟨bz, offz, none⟩ := by simp at e1; exact e1.1
          subst ea
          clear e1
          have hx := HZU.out (z.getD k 0) (getD_mem0 z k hkl)
          have HST : Hid ((zgn (z.take (k + 1))).map (Value.int .i64) = (zgn (z.take k)).map (Value.int .i64) ++ [.int .i64 (zag (z.getD k 0))]) := by
            simp only [Hid]; rw [take_snoc z k hkl]; simp [zgn]
          have ZK := hideIt (rzag_any (z.getD k 0) wr hx.1 hx.2)
          generalize z.getD k 0 = x at *
          have own2 := HOWN.out
          have hsz := HON.out.size
          clear hown hon hkl
          go_wp2_with fail
          refine ZK.out.mono ?_
          rintro e w4 ⟨rfl, rfl⟩
          clear ZK
          generalize zag x = q at *
          go_wp2_with (at_builtin; refine wpList_append_lies _ rfl _ _ _ rfl w2.heap.size 3 i0 (.int .i64 0) 1 8 Tryz.underlying24 hi hz0 hz1 hz2 rfl (by omega) _ k _ rfl (own2.alloc _) ⟨wr.heap.size, 0, none⟩ 1 1 [.int .i64 q] rfl rfl ?c1 ?c2 (by omega) ?c3 ?c4 ?c5 (wr.heap.size + 1) (by simp) ?_)
          case c1 => exact cell_one_new _ _ _
          case c2 => intro u hu; simp at hu; subst hu; rfl
          case c3 => unfold maxLen; omega
          case c4 => omega
          case c5 => simp; omega
          intro gg cap1 w3 hown1 hgrow hat hg1
          have o3 := hideIt ((HON.out.alloc _).grown hgrow (fun p hp0 hp => absurd (own2.lt p hp).1 (by omega)))
          have own3 : Hid (w3.ownsRow w2.heap.size 3 1 (.slice (some ⟨gg, 0, none⟩) (k + 1) cap1) (k + 1) ((zgn (z.take (k + 1))).map (Value.int .i64))) := by
            simp only [Hid]
            rw [HST.out]; exact hown1
          clear own2 hown1 hgrow hat
          go_wp2
          go_roundw
          case rel => exact ⟨k + 1, by omega, by go_num, own3.out, o3.out⟩
          case measure => simp [intOf]; omega
        · obtain rfl : k = n := by omega
          have dlt : decide ((k : Int) < (k : Int)) = false := by simp
          have OWZ : Hid (wr.ownsRow w.heap.size 3 1 u9 k ((zgn z).map (Value.int .i64))) := by
            have h1 := own_low HOWN.out O2.out.size
            rw [List.take_of_length_le (by rw [HZL.out]; exact Nat.le_refl _)] at h1
            exact h1
          have ONZ := hideIt (O2.out.same HON.out)
          clear hown hon HOWN
          have hbz : Bs .i64 wr u9 (zgn z) := Bs.of_own (by rw [zgn_length, HZL.out]; exact OWZ.out)
          have SU := hideIt (rsum_in u9 (zgn z) 1 wr hbz (NoCap.of_own OWZ.out) (by rw [zgn_length, HZL.out]; omega) (zgn_i64 HZU.out) (by omega))
          obtain ⟨f9, c9, e9⟩ := hbz.len
          rw [zgn_length, HZL.out] at e9 SU
          subst e9
          clear hbz
          rw [← HL.out] at SU
          go_wp2_with fail
          refine SU.out.mono ?_
          rintro e wS ⟨uS, rfl, ownS, oS⟩
          have ONS := hideIt (ONZ.out.same oS)
          have OWL : Hid (wS.ownsRow w.heap.size 3 1 uS L.length (L.map (Value.int .i64))) := by
            simp only [Hid]; rw [HLL.out]; exact own_low ownS ONZ.out.size
          clear SU ownS oS
          have EN := rencode8_all uS L wS (Bs.of_own OWL.out) (NoCap.of_own OWL.out) HLI.out (.inl (by rw [HLL.out]; omega))
          have HEL := hideIt (ENC8_len (l := L) (by rw [HLL.out]; omega)).1
          rw [HLL.out] at HEL
          generalize ENC8 L = E at *
          obtain ⟨E1, Ec⟩ := E
          simp only at EN HEL HDD
          have EN := hideIt EN
          obtain ⟨fL, cL, eL⟩ := (Bs.of_own OWL.out).len
          rw [HLL.out] at eL
          subst eL
          go_wp2_with fail
          refine EN.out.mono ?_
          rintro e wE ⟨uE, rfl, ownE, oE⟩
          have OE := hideIt (ONS.out.same oE)
          have OWE := hideIt (oE.own OWL.out (fun _ _ f => f))
          have SM := hideIt (same_any uE (.slice (some ⟨b, off, none⟩) N cap) E1 zs wE (Bs.of_own ownE) (HBZ.out.past OE.out) (by have := HEL.out; omega))
          obtain ⟨fE, cE, eE⟩ := (Bs.of_own ownE).len
          subst eE
          clear EN ownE oE
          by_cases heq : E1 = zs
          · have de : decide (E1 = zs) = true := decide_eq_true heq
            rw [de] at SM
            have eD := HDD.out
            rw [if_pos heq] at eD
            subst eD
            clear heq de HDD HEL
            generalize E1.length = e1 at *
            go_wp2_with fail
            refine SM.out.mono ?_
            rintro e wF ⟨rfl, oF⟩
            have OF := hideIt (OE.out.same oF)
            have OWF := hideIt (oF.own OWE.out (fun _ _ f => f))
            clear SM oF
            go_wp2
            try rw [Exit.noGoto_ret]
            go_ret2
            exact ⟨_, rfl, Bs.of_own OWF.out, OF.out⟩
          · have de : decide (E1 = zs) = false := decide_eq_false heq
            rw [de] at SM
            have eD := HDD.out
            rw [if_neg heq] at eD
            subst eD
            clear heq de HDD HEL
            generalize E1.length = e1 at *
            go_wp2_with fail
            refine SM.out.mono ?_
            rintro e wF ⟨rfl, oF⟩
            have OF := hideIt (OE.out.same oF)
            clear SM oF
            go_wp2
            try rw [Exit.noGoto_ret]
            go_ret2
            exact ⟨_, rfl, Bs.nil _ _, OF.out⟩
  · rw [if_pos hc] at eD
    subst eD
    have dc : (c != 0) = true := by simp; exact hc
    clear HOK ht
    by_cases hcc : cap = 1
    · subst hcc
      obtain rfl : N = 1 := by omega
      have RD := hideIt (RA.out _ (HRT1.out rfl) (NoCap.some _ _ _))
      clear RA HRT1 HRT2
      go_enter Tryz.func6, Tryz.ntmps6
      go_wp2_with fail
      refine RD.out.mono ?_
      rintro e w2 ⟨u2, rfl, b2, n2, o2⟩
      have O2 := hideIt o2
      obtain ⟨fz, cz, ez⟩ := b2.len
      subst ez
      clear RD b2 n2 o2
      generalize z.length = zl at *
      go_wp2
      try rw [Exit.noGoto_ret]
      go_ret2
      exact ⟨_, rfl, Bs.nil _ _, O2.out⟩
    · have hcx : ¬ ((cap : Int) - 1 = 0) := by omega
      have RD := hideIt (RA.out _ HRT2.out (NoCap.some _ _ _))
      clear RA HRT1 HRT2
      go_enter Tryz.func6, Tryz.ntmps6
      go_wp2_with fail
      refine RD.out.mono ?_
      rintro e w2 ⟨u2, rfl, b2, n2, o2⟩
      have O2 := hideIt o2
      obtain ⟨fz, cz, ez⟩ := b2.len
      subst ez
      clear RD b2 n2 o2
      generalize z.length = zl at *
      go_wp2
      try rw [Exit.noGoto_ret]
      go_ret2
      exact ⟨_, rfl, Bs.nil _ _, O2.out⟩
set_option maxHeartbeats 3200000 in
set_option maxRecDepth 100000 in
theorem rdecode8_high (v : Value) (t : Nat) (r : List Int) (n : Nat) (w : World) (h : Bs .u8 w v ((t : Int) :: r)) (hr : Byt r) (hl : r.length ≤ 300) (hn : n ≤ 600) (ht : t = 3 ∨ t = 4) :
    Calls Tryz.prog 6 #[v, .int .i64 n] w fun e w' => ∃ u, e = .returned (.tuple #[u, .int .i64 (RDEC8 ((t : Int) :: r) n).2]) ∧ Bs .i64 w' u (RDEC8 ((t : Int) :: r) n).1 ∧ Only (fun _ => False) w w' := by
  obtain ⟨i0, hi, hz0, hz1, hz2⟩ := info_parts Tryz.infoI64
  have d0 : decide ((n : Int) < 0) = false := by simp
  have d1 : decide ((65536 : Int) < (n : Int)) = false := decide_eq_false (by omega)
  have HBZ0 := hideIt h
  obtain ⟨b, off, cap, ev, cell0⟩ := h.at 0 (by simp)
  subst ev
  rw [Nat.add_zero, List.getD_cons_zero] at cell0
  have d3 : decide ((4 : Int) < (t : Int)) = false := decide_eq_false (by omega)
  have t255 : (t : Int) ≤ 255 := by omega
  have dt0 : ((t : Int) == 0) = false := by rw [beq_eq_false_iff_ne]; omega
  have dt1 : decide ((1 : Int) ≤ (t : Int)) = true := decide_eq_true (by omega)
  have dt3 : decide ((3 : Int) ≤ (t : Int)) = true := decide_eq_true (by omega)
  have RA : Hid (∀ (u : Value), Bs .u8 w u r → NoCap u → Calls Tryz.prog 15 #[u, .int .i64 n, .int .i64 t] w fun e w' => ∃ u', e = .returned (.tuple #[u', .int .i64 (RR r n t).2]) ∧ Bs .u64 w' u' (RR r n t).1 ∧ NoCap u' ∧ Only (fun _ => False) w w') :=
    fun u hb hnc => rread_any u r n t w hb hnc hr hl (by omega) (by omega)
  have HOK : Hid ((RR r n t).2 = 0 → U64 (RR r n t).1 ∧ (RR r n t).1.length = n) := fun h0 => RR_ok hr h0
  have eD : RDEC8 ((t : Int) :: r) n = if (RR r n t).2 ≠ 0 then ([], (RR r n t).2) else if (ENC8 (RI (RR r n t).1 t)).1 = (t : Int) :: r then (RI (RR r n t).1 t, 0) else ([], 3) := by
    unfold RDEC8
    rw [if_neg (by omega), if_neg (by simp), List.getD_cons_zero, if_neg (by omega)]
    rfl
  obtain ⟨DD, hDD⟩ : ∃ DD, DD = RDEC8 ((t : Int) :: r) n := ⟨_, rfl⟩
  obtain ⟨zs, hzs⟩ : ∃ zs, zs = (t : Int) :: r := ⟨_, rfl⟩
  obtain ⟨N, hN⟩ : ∃ N, N = ((t : Int) :: r).length := ⟨_, rfl⟩
  rw [← hDD] at eD ⊢
  rw [← hzs] at eD
  rw [← hN] at HBZ0 ⊢
  have HBZ : Hid (Bs .u8 w (.slice (some ⟨b, off, none⟩) N cap) zs) := by rw [hzs]; exact HBZ0.out
  have hcapN : N ≤ cap := by
    obtain ⟨ao', cap', e2, hc, _⟩ := HBZ0.out
    rw [← hN] at hc
    simp at e2
    omega
  have hNr : N = r.length + 1 := by rw [hN]; rfl
  have d4 : ((N : Int) == 0) = false := by rw [beq_eq_false_iff_ne]; omega
  have hN1 : 1 ≤ N := by omega
  have HRT1 : Hid (cap = 1 → Bs .u8 w (.slice (some ⟨b, off, none⟩) 0 0) r) := fun hc => by
    have e1 : N = 1 := by omega
    have := HBZ0.out
    rw [hc, e1] at this
    have := this.cut0 (n := 1) (by omega)
    simpa using this
  have HRT2 : Hid (Bs .u8 w (.slice (some ((⟨b, off, none⟩ : Addr).add 1)) (N - 1) (cap - 1)) r) := by
    simp only [Hid]
    have := HBZ0.out.cut (n := 1) hN1
    simpa using this
  generalize RR r n t = R at *
  obtain ⟨z, c⟩ := R
  simp only at RA HOK eD
  clear h hr hl HBZ0 hDD hzs hN hNr
  have j0 : (1 : Int) ≤ (N : Int) := by omega
  have j1 : (1 : Int) ≤ (cap : Int) := by omega
  have j2 : (0 : Int) < (N : Int) := by omega
  by_cases hc : c = 0
  · subst hc
    obtain ⟨hzu, hzl⟩ := HOK.out rfl
    have HZU := hideIt hzu
    have HZL := hideIt hzl
    rw [if_neg (by simp)] at eD
    have hRI : RI z t = S 2 (zgn z) := by unfold RI; rw [if_neg (by omega), show tms t = 2 by unfold tms; rw [if_pos (by omega)]]
    rw [hRI] at eD
    obtain ⟨L, hL⟩ : ∃ L, L = S 2 (zgn z) := ⟨_, rfl⟩
    rw [← hL] at eD
    have HDD := hideIt eD
    have HL := hideIt hL
    have HLI : Hid (I64s L) := by simp only [Hid]; rw [hL]; exact S_g _ _ (zgn_i64 HZU.out)
    have HLL : Hid (L.length = n) := by simp only [Hid]; rw [hL, S_length, zgn_length, HZL.out]
    clear hRI eD hL hzu hzl HOK ht
    by_cases hcc : cap = 1
    · subst hcc
      obtain rfl : N = 1 := by omega
      have RD := hideIt (RA.out _ (HRT1.out rfl) (NoCap.some _ _ _))
      clear RA HRT1 HRT2
      go_enter Tryz.func6, Tryz.ntmps6
      go_wp2_with fail
      refine RD.out.mono ?_
      rintro e w2 ⟨u2, rfl, b2, n2, o2⟩
      have O2 := hideIt o2
      have HBS := hideIt b2
      obtain ⟨fz, cz, ez⟩ := b2.len
      rw [HZL.out] at ez
      subst ez
      clear RD b2 n2 o2
      go_wp2
      go_loopw [9, 10] (fun s i wr => ∃ k : Nat, k ≤ n ∧ i = .int .i64 k ∧ wr.ownsRow w2.heap.size 3 1 s k ((zgn (z.take k)).map (Value.int .i64)) ∧ Only (fun _ => False) w2 wr) (fun _ i _ => n - (intOf i).toNat)
      case atStart => exact ⟨0, Nat.zero_le _, rfl, World.ownsRow_nil _ _ _ _, Only.refl _ _⟩
      case round =>
        obtain ⟨k, hk, rfl, hown, hon⟩ := hrel
        have HOWN := hideIt hown
        have HON := hideIt hon
        by_cases hlt : k < n
        · have dlt : decide ((k : Int) < (n : Int)) = true := by simp; omega
          have hkl : k < z.length := by rw [HZL.out]; exact hlt
          obtain ⟨bz, offz, capz, e1, hc0⟩ := (HBS.out.past hon).at k hkl
          have ea : fz = some ⟨bz, offz, none⟩ := by simp at e1; exact e1.1
          subst ea
          clear e1
          have hx := HZU.out (z.getD k 0) (getD_mem0 z k hkl)
          have HST : Hid ((zgn (z.take (k + 1))).map (Value.int .i64) = (zgn (z.take k)).map (Value.int .i64) ++ [.int .i64 (zag (z.getD k 0))]) := by
            simp only [Hid]; rw [take_snoc z k hkl]; simp [zgn]
          have ZK := hideIt (rzag_any (z.getD k 0) wr hx.1 hx.2)
          generalize z.getD k 0 = x at *
          have own2 := HOWN.out
          have hsz := HON.out.size
          clear hown hon hkl
          go_wp2_with fail
          refine ZK.out.mono ?_
          rintro e w4 ⟨rfl, rfl⟩
          clear ZK
          generalize zag x = q at *
          go_wp2_with (at_builtin; refine wpList_append_lies _ rfl _ _ _ rfl w2.heap.size 3 i0 (.int .i64 0) 1 8 Tryz.underlying24 hi hz0 hz1 hz2 rfl (by omega) _ k _ rfl (own2.alloc _) ⟨wr.heap.size, 0, none⟩ 1 1 [.int .i64 q] rfl rfl ?c1 ?c2 (by omega) ?c3 ?c4 ?c5 (wr.heap.size + 1) (by simp) ?_)
          case c1 => exact cell_one_new _ _ _
          case c2 => intro u hu; simp at hu; subst hu; rfl
          case c3 => unfold maxLen; omega
          case c4 => omega
          case c5 => simp; omega
          intro gg cap1 w3 hown1 hgrow hat hg1
          have o3 := hideIt ((HON.out.alloc _).grown hgrow (fun p hp0 hp => absurd (own2.lt p hp).1 (by omega)))
          have own3 : Hid (w3.ownsRow w2.heap.size 3 1 (.slice (some ⟨gg, 0, none⟩) (k + 1) cap1) (k + 1) ((zgn (z.take (k + 1))).map (Value.int .i64))) := by
            simp only [Hid]
            rw [HST.out]; exact hown1
          clear own2 hown1 hgrow hat
          go_wp2
          go_roundw
          case rel => exact ⟨k + 1, by omega, by go_num, own3.out, o3.out⟩
          case measure => simp [intOf]; omega
        · obtain rfl : k = n := by omega
          have dlt : decide ((k : Int) < (k : Int)) = false := by simp
          have OWZ : Hid (wr.ownsRow w.heap.size 3 1 u9 k ((zgn z).map (Value.int .i64))) := by
            have h1 := own_low HOWN.out O2.out.size
            rw [List.take_of_length_le (by rw [HZL.out]; exact Nat.le_refl _)] at h1
            exact h1
          have ONZ := hideIt (O2.out.same HON.out)
          clear hown hon HOWN
          have hbz : Bs .i64 wr u9 (zgn z) := Bs.of_own (by rw [zgn_length, HZL.out]; exact OWZ.out)
          have SU := hideIt (rsum_in u9 (zgn z) 2 wr hbz (NoCap.of_own OWZ.out) (by rw [zgn_length, HZL.out]; omega) (zgn_i64 HZU.out) (by omega))
          obtain ⟨f9, c9, e9⟩ := hbz.len
          rw [zgn_length, HZL.out] at e9 SU
          subst e9
          clear hbz
          rw [← HL.out] at SU
          go_wp2_with fail
          refine SU.out.mono ?_
          rintro e wS ⟨uS, rfl, ownS, oS⟩
          have ONS := hideIt (ONZ.out.same oS)
          have OWL : Hid (wS.ownsRow w.heap.size 3 1 uS L.length (L.map (Value.int .i64))) := by
            simp only [Hid]; rw [HLL.out]; exact own_low ownS ONZ.out.size
          clear SU ownS oS
          have EN := rencode8_all uS L wS (Bs.of_own OWL.out) (NoCap.of_own OWL.out) HLI.out (.inl (by rw [HLL.out]; omega))
          have HEL := hideIt (ENC8_len (l := L) (by rw [HLL.out]; omega)).1
          rw [HLL.out] at HEL
          generalize ENC8 L = E at *
          obtain ⟨E1, Ec⟩ := E
          simp only at EN HEL HDD
          have EN := hideIt EN
          obtain ⟨fL, cL, eL⟩ := (Bs.of_own OWL.out).len
          rw [HLL.out] at eL
          subst eL
          go_wp2_with fail
          refine EN.out.mono ?_
          rintro e wE ⟨uE, rfl, ownE, oE⟩
          have OE := hideIt (ONS.out.same oE)
          have OWE := hideIt (oE.own OWL.out (fun _ _ f => f))
          have SM := hideIt (same_any uE (.slice (some ⟨b, off, none⟩) 1 1) E1 zs wE (Bs.of_own ownE) (HBZ.out.past OE.out) (by have := HEL.out; omega))
          obtain ⟨fE, cE, eE⟩ := (Bs.of_own ownE).len
          subst eE
          clear EN ownE oE
          by_cases heq : E1 = zs
          · have de : decide (E1 = zs) = true := decide_eq_true heq
            rw [de] at SM
            have eD := HDD.out
            rw [if_pos heq] at eD
            subst eD
            clear heq de HDD HEL
            generalize E1.length = e1 at *
            go_wp2_with fail
            refine SM.out.mono ?_
            rintro e wF ⟨rfl, oF⟩
            have OF := hideIt (OE.out.same oF)
            have OWF := hideIt (oF.own OWE.out (fun _ _ f => f))
            clear SM oF
            go_wp2
            try rw [Exit.noGoto_ret]
            go_ret2
            exact ⟨_, rfl, Bs.of_own OWF.out, OF.out⟩
          · have de : decide (E1 = zs) = false := decide_eq_false heq
            rw [de] at SM
            have eD := HDD.out
            rw [if_neg heq] at eD
            subst eD
            clear heq de HDD HEL
            generalize E1.length = e1 at *
            go_wp2_with fail
            refine SM.out.mono ?_
            rintro e wF ⟨rfl, oF⟩
            have OF := hideIt (OE.out.same oF)
            clear SM oF
            go_wp2
            try rw [Exit.noGoto_ret]
            go_ret2
            exact ⟨_, rfl, Bs.nil _ _, OF.out⟩
    · have hcx : ¬ ((cap : Int) - 1 = 0) := by omega
      have RD := hideIt (RA.out _ HRT2.out (NoCap.some _ _ _))
      clear RA HRT1 HRT2
      go_enter Tryz.func6, Tryz.ntmps6
      go_wp2_with fail
      refine RD.out.mono ?_
      rintro e w2 ⟨u2, rfl, b2, n2, o2⟩
      have O2 := hideIt o2
      have HBS := hideIt b2
      obtain ⟨fz, cz, ez⟩ := b2.len
      rw [HZL.out] at ez
      subst ez
      clear RD b2 n2 o2
      go_wp2
      go_loopw [9, 10] (fun s i wr => ∃ k : Nat, k ≤ n ∧ i = .int .i64 k ∧ wr.ownsRow w2.heap.size 3 1 s k ((zgn (z.take k)).map (Value.int .i64)) ∧ Only (fun _ => False) w2 wr) (fun _ i _ => n - (intOf i).toNat)
      case atStart => exact ⟨0, Nat.zero_le _, rfl, World.ownsRow_nil _ _ _ _, Only.refl _ _⟩
      case round =>
        obtain ⟨k, hk, rfl, hown, hon⟩ := hrel
        have HOWN := hideIt hown
        have HON := hideIt hon
        by_cases hlt : k < n
        · have dlt : decide ((k : Int) < (n : Int)) = true := by simp; omega
          have hkl : k < z.length := by rw [HZL.out]; exact hlt
          obtain ⟨bz, offz, capz, e1, hc0⟩ := (HBS.out.past hon).at k hkl
          have ea : fz = some ⟨bz, offz, none⟩ := by simp at e1; exact e1.1
          subst ea
          clear e1
          have hx := HZU.out (z.getD k 0) (getD_mem0 z k hkl)
          have HST : Hid ((zgn (z.take (k + 1))).map (Value.int .i64) = (zgn (z.take k)).map (Value.int .i64) ++ [.int .i64 (zag (z.getD k 0))]) := by
            simp only [Hid]; rw [take_snoc z k hkl]; simp [zgn]
          have ZK := hideIt (rzag_any (z.getD k 0) wr hx.1 hx.2)
          generalize z.getD k 0 = x at *
          have own2 := HOWN.out
          have hsz := HON.out.size
          clear hown hon hkl
          go_wp2_with fail
          refine ZK.out.mono ?_
          rintro e w4 ⟨rfl, rfl⟩
          clear ZK
          generalize zag x = q at *
          go_wp2_with (at_builtin; refine wpList_append_lies _ rfl _ _ _ rfl w2.heap.size 3 i0 (.int .i64 0) 1 8 Tryz.underlying24 hi hz0 hz1 hz2 rfl (by omega) _ k _ rfl (own2.alloc _) ⟨wr.heap.size, 0, none⟩ 1 1 [.int .i64 q] rfl rfl ?c1 ?c2 (by omega) ?c3 ?c4 ?c5 (wr.heap.size + 1) (by simp) ?_)
          case c1 => exact cell_one_new _ _ _
          case c2 => intro u hu; simp at hu; subst hu; rfl
          case c3 => unfold maxLen; omega
          case c4 => omega
          case c5 => simp; omega
          intro gg cap1 w3 hown1 hgrow hat hg1
          have o3 := hideIt ((HON.out.alloc _).grown hgrow (fun p hp0 hp => absurd (own2.lt p hp).1 (by omega)))
          have own3 : Hid (w3.ownsRow w2.heap.size 3 1 (.slice (some ⟨gg, 0, none⟩) (k + 1) cap1) (k + 1) ((zgn (z.take (k + 1))).map (Value.int .i64))) := by
            simp only [Hid]
            rw [HST.out]; exact hown1
          clear own2 hown1 hgrow hat
          go_wp2
          go_roundw
          case rel => exact ⟨k + 1, by omega, by go_num, own3.out, o3.out⟩
          case measure => simp [intOf]; omega
        · obtain rfl : k = n := by omega
          have dlt : decide ((k : Int) < (k : Int)) = false := by simp
          have OWZ : Hid (wr.ownsRow w.heap.size 3 1 u9 k ((zgn z).map (Value.int .i64))) := by
            have h1 := own_low HOWN.out O2.out.size
            rw [List.take_of_length_le (by rw [HZL.out]; exact Nat.le_refl _)] at h1
            exact h1
          have ONZ := hideIt (O2.out.same HON.out)
          clear hown hon HOWN
          have hbz : Bs .i64 wr u9 (zgn z) := Bs.of_own (by rw [zgn_length, HZL.out]; exact OWZ.out)
          have SU := hideIt (rsum_in u9 (zgn z) 2 wr hbz (NoCap.of_own OWZ.out) (by rw [zgn_length, HZL.out]; omega) (zgn_i64 HZU.out) (by omega))
          obtain ⟨f9, c9, e9⟩ := hbz.len
          rw [zgn_length, HZL.out] at e9 SU
          subst e9
          clear hbz
          rw [← HL.out] at SU
          go_wp2_with fail
          refine SU.out.mono ?_
          rintro e wS ⟨uS, rfl, ownS, oS⟩
          have ONS := hideIt (ONZ.out.same oS)
          have OWL : Hid (wS.ownsRow w.heap.size 3 1 uS L.length (L.map (Value.int .i64))) := by
            simp only [Hid]; rw [HLL.out]; exact own_low ownS ONZ.out.size
          clear SU ownS oS
          have EN := rencode8_all uS L wS (Bs.of_own OWL.out) (NoCap.of_own OWL.out) HLI.out (.inl (by rw [HLL.out]; omega))
          have HEL := hideIt (ENC8_len (l := L) (by rw [HLL.out]; omega)).1
          rw [HLL.out] at HEL
          generalize ENC8 L = E at *
          obtain ⟨E1, Ec⟩ := E
          simp only at EN HEL HDD
          have EN := hideIt EN
          obtain ⟨fL, cL, eL⟩ := (Bs.of_own OWL.out).len
          rw [HLL.out] at eL
          subst eL
          go_wp2_with fail
          refine EN.out.mono ?_
          rintro e wE ⟨uE, rfl, ownE, oE⟩
          have OE := hideIt (ONS.out.same oE)
          have OWE := hideIt (oE.own OWL.out (fun _ _ f => f))
          have SM := hideIt (same_any uE (.slice (some ⟨b, off, none⟩) N cap) E1 zs wE (Bs.of_own ownE) (HBZ.out.past OE.out) (by have := HEL.out; omega))
          obtain ⟨fE, cE, eE⟩ := (Bs.of_own ownE).len
          subst eE
          clear EN ownE oE
          by_cases heq : E1 = zs
          · have de : decide (E1 = zs) = true := decide_eq_true heq
            rw [de] at SM
            have eD := HDD.out
            rw [if_pos heq] at eD
            subst eD
            clear heq de HDD HEL
            generalize E1.length = e1 at *
            go_wp2_with fail
            refine SM.out.mono ?_
            rintro e wF ⟨rfl, oF⟩
            have OF := hideIt (OE.out.same oF)
            have OWF := hideIt (oF.own OWE.out (fun _ _ f => f))
            clear SM oF
            go_wp2
            try rw [Exit.noGoto_ret]
            go_ret2
            exact ⟨_, rfl, Bs.of_own OWF.out, OF.out⟩
          · have de : decide (E1 = zs) = false := decide_eq_false heq
            rw [de] at SM
            have eD := HDD.out
            rw [if_neg heq] at eD
            subst eD
            clear heq de HDD HEL
            generalize E1.length = e1 at *
            go_wp2_with fail
            refine SM.out.mono ?_
            rintro e wF ⟨rfl, oF⟩
            have OF := hideIt (OE.out.same oF)
            clear SM oF
            go_wp2
            try rw [Exit.noGoto_ret]
            go_ret2
            exact ⟨_, rfl, Bs.nil _ _, OF.out⟩
  · rw [if_pos hc] at eD
    subst eD
    have dc : (c != 0) = true := by simp; exact hc
    clear HOK ht
    by_cases hcc : cap = 1
    · subst hcc
      obtain rfl : N = 1 := by omega
      have RD := hideIt (RA.out _ (HRT1.out rfl) (NoCap.some _ _ _))
      clear RA HRT1 HRT2
      go_enter Tryz.func6, Tryz.ntmps6
      go_wp2_with fail
      refine RD.out.mono ?_
      rintro e w2 ⟨u2, rfl, b2, n2, o2⟩
      have O2 := hideIt o2
      obtain ⟨fz, cz, ez⟩ := b2.len
      subst ez
      clear RD b2 n2 o2
      generalize z.length = zl at *
      go_wp2
      try rw [Exit.noGoto_ret]
      go_ret2
      exact ⟨_, rfl, Bs.nil _ _, O2.out⟩
    · have hcx : ¬ ((cap : Int) - 1 = 0) := by omega
      have RD := hideIt (RA.out _ HRT2.out (NoCap.some _ _ _))
      clear RA HRT1 HRT2
      go_enter Tryz.func6, Tryz.ntmps6
      go_wp2_with fail
      refine RD.out.mono ?_
      rintro e w2 ⟨u2, rfl, b2, n2, o2⟩
      have O2 := hideIt o2
      obtain ⟨fz, cz, ez⟩ := b2.len
      subst ez
      clear RD b2 n2 o2
      generalize z.length = zl at *
      go_wp2
      try rw [Exit.noGoto_ret]
      go_ret2
      exact ⟨_, rfl, Bs.nil _ _, O2.out⟩
theorem rdecode8_all (v : Value) (ys : List Int) (n : Int) (w : World) (h : Bs .u8 w v ys) (hr : Byt ys) (hl : ys.length ≤ 300) (hn : n ≤ 600 ∨ 65536 < n) :
    Calls Tryz.prog 6 #[v, .int .i64 n] w fun e w' => ∃ u, e = .returned (.tuple #[u, .int .i64 (DEC8 ys n).2]) ∧ Bs .i64 w' u (DEC8 ys n).1 ∧ Only (fun _ => False) w w' := by
  rw [← RDEC8_eq hr]
  by_cases ha : n < 0 ∨ 65536 < n
  · have e : RDEC8 ys n = ([], 1) := by unfold RDEC8; rw [if_pos ha]
    rw [e]
    refine (rdecode8_arg v n w ha).mono ?_
    rintro e w' ⟨rfl, rfl⟩
    exact ⟨_, rfl, Bs.nil _ _, Only.refl _ _⟩
  · obtain ⟨m, rfl⟩ := Int.eq_ofNat_of_zero_le (show 0 ≤ n by omega)
    cases ys with
    | nil =>
      have e : RDEC8 [] m = ([], 2) := by unfold RDEC8; rw [if_neg (by omega), if_pos rfl]
      rw [e]
      refine (rdecode8_nil v m w h (by omega)).mono ?_
      rintro e w' ⟨rfl, rfl⟩
      exact ⟨_, rfl, Bs.nil _ _, Only.refl _ _⟩
    | cons y r =>
      have hy := hr y List.mem_cons_self
      have hr2 : Byt r := fun z hz => hr z (List.mem_cons_of_mem _ hz)
      have hl2 : r.length ≤ 300 := by simp at hl; omega
      obtain ⟨t, rfl⟩ : ∃ t : Nat, y = t := ⟨y.toNat, by omega⟩
      by_cases h4 : 4 < t
      · have e : RDEC8 ((t : Int) :: r) m = ([], 3) := by unfold RDEC8; rw [if_neg (by omega), if_neg (by simp), List.getD_cons_zero, if_pos (by omega)]
        rw [e]
        refine (rdecode8_tag v t r m w h (by omega) h4 (by omega)).mono ?_
        rintro e w' ⟨rfl, rfl⟩
        exact ⟨_, rfl, Bs.nil _ _, Only.refl _ _⟩
      · by_cases h0 : t = 0
        · exact rdecode8_zero v t r m w h hr2 hl2 (by omega) h0
        · by_cases h3 : t < 3
          · exact rdecode8_low v t r m w h hr2 hl2 (by omega) (by omega)
          · exact rdecode8_high v t r m w h hr2 hl2 (by omega) (by omega)
end Go.Proofs.YtgbimghhdbmjiaaGreat
