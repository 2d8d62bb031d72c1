/- Package runs: a run's bytes, and numbers as runs. -/
import Derived.Test.YtpohcimjfilfoaaRm
import Derived.Deep.LoopGhost
import Derived.WalkMore
namespace Go.Proofs.Ytpohcimjfilfoaa
open Go.RowKit

theorem getD_mem0 (l : List Int) (k : Nat) (h : k < l.length) : l.getD k 0 ∈ l := by
  rw [List.getD_eq_getElem?_getD, List.getElem?_eq_getElem h]; simp
theorem Bs.past {k : IntKind} {w w' : World} {v : Value} {xs : List Int} (h : Bs k w v xs) (o : Only (fun _ => False) w w') : Bs k w' v xs := h.keep o (fun _ _ f => f)
theorem Only.same {a b c : World} (h : Only (fun _ => False) a b) (k : Only (fun _ => False) b c) : Only (fun _ => False) a c := h.trans k (fun _ _ f => f)

set_option maxHeartbeats 400000 in
set_option maxRecDepth 100000 in
/-- A RUN: its number, and how many more of it there are. -/
theorem run_any (v : Int) (c : Nat) (w : World) (h0 : 0 ≤ v) (h1 : v ≤ 18446744073709551615) (c0 : 1 ≤ c) (c1 : c ≤ 65536) :
    Calls Try.prog 16 #[.int .u64 v, .int .i64 c] w fun e w' => ∃ v', e = .returned v' ∧ w'.ownsRow w.heap.size 5 1 v' (gs v.toNat ++ gs (c - 1)).length ((gs v.toNat ++ gs (c - 1)).map (Value.int .u8)) ∧ Only (fun _ => False) w w' := by
  have A := hideIt (append_any (.slice none 0 0) [] v w (Bs.nil _ _) NoCap.nil (by simp) h0 h1)
  have H10 := hideIt (gs_le10 (v := v.toNat) (by omega))
  obtain ⟨m, rfl⟩ : ∃ m, c = m + 1 := ⟨c - 1, by omega⟩
  rw [Nat.add_sub_cancel]
  have em : ((m + 1 : Nat) : Int) - 1 = (m : Int) := by omega
  go_enter Try.func16, Try.ntmps16
  go_wp2_with fail
  refine A.out.mono ?_
  rintro e w1 ⟨v1, rfl, own1, o1⟩
  rw [List.nil_append] at own1
  have B := hideIt (append_any v1 (gs v.toNat) m w1 (Bs.of_own own1) (NoCap.of_own own1) (by have := H10.out; omega) (by omega) (by omega))
  have O1 := hideIt o1
  clear A own1 o1
  go_wp2_with fail
  refine B.out.mono ?_
  rintro e w2 ⟨v2, rfl, own2, o2⟩
  rw [Int.toNat_natCast] at own2
  have F := hideIt (And.intro (own_low own2 O1.out.size) (O1.out.trans o2 (fun _ _ f => f)))
  clear B own2 o2
  go_wp2
  go_ret
  exact ⟨_, rfl, F.out⟩

set_option maxHeartbeats 400000 in
set_option maxRecDepth 100000 in
theorem run_encode_long (v : Value) (xs : List Int) (w : World) (h : Bs .u64 w v xs) (hl : 65536 < xs.length) :
    Calls Try.prog 10 #[v] w fun e w' => e = .returned (.tuple #[.slice none 0 0, .int .i64 4]) ∧ w = w' := by
  obtain ⟨ao, cap, rfl⟩ := h.len
  have d0 : decide ((65536 : Int) < xs.length) = true := decide_eq_true (by omega)
  clear h hl
  generalize xs.length = m at *
  go_enter Try.func10, Try.ntmps10
  go_wp2
  go_step3
  go_wp2
  try rw [Exit.noGoto_ret]
  go_ret2
  exact ⟨rfl, rfl⟩

set_option maxHeartbeats 1600000 in
set_option maxRecDepth 100000 in
/-- NUMBERS ARE ENCODED: new memory. -/
theorem run_encode_bs (v : Value) (xs : List Int) (w : World) (h : Bs .u64 w v xs) (hu : U64 xs) (hl : xs.length ≤ 65536) :
    Calls Try.prog 10 #[v] w fun e w' => ∃ v', e = .returned (.tuple #[v', .int .i64 0]) ∧ w'.ownsRow w.heap.size 5 1 v' (runE xs).length ((runE xs).map (Value.int .u8)) ∧ Only (fun _ => False) w w' := by
  obtain ⟨i0, hi, hz0, hz1, hz2⟩ := info_parts Try.infoU8
  have HB := hideIt h
  have HU := hideIt hu
  have HEL := hideIt (runE_len xs hu (by omega))
  obtain ⟨ao, cap, rfl⟩ := h.len
  obtain ⟨n, hn⟩ : ∃ n, n = xs.length := ⟨_, rfl⟩
  rw [← hn] at hl HB HEL
  rw [← hn]
  have HN := hideIt hn
  have d0 : decide ((65536 : Int) < n) = false := decide_eq_false (by omega)
  clear h hu hn
  go_enter Try.func10, Try.ntmps10
  go_wp2
  go_step3
  go_wp2
  go_step3
  go_wp2
  go_loopg [0, 4] n (fun g s0 s4 wx => ∃ (ls o : List Int), Hid (ls.length = g) ∧ g ≤ n ∧ Bs .u64 w s0 ls ∧ Hid (o ++ runE ls = runE xs) ∧ U64 ls ∧ wx.ownsRow w.heap.size 5 1 s4 o.length (o.map (Value.int .u8)) ∧ Only (fun _ => False) w wx)
  case atStart => exact ⟨xs, [], HN.out.symm, Nat.le_refl _, HB.out, rfl, HU.out, World.ownsRow_nil _ _ _ _, Only.refl _ _⟩
  case round =>
    obtain ⟨ls, o, HL, hgn, hbs, HO, hul, hown, hon⟩ := hrel
    obtain ⟨W, hW⟩ : ∃ W, W = wr := ⟨_, rfl⟩
    subst hW
    have HBS := hideIt hbs
    obtain ⟨al, cl, el⟩ := hbs.len
    rw [HL.out] at el
    subst el
    have HUL := hideIt hul
    have HOWN := hideIt hown
    have HON := hideIt hon
    have HOL : Hid (o.length ≤ 2000000) := by
      have := congrArg List.length HO.out
      have := HEL.out
      rw [List.length_append] at *
      simp only [Hid]
      omega
    clear hbs hul hown hon HB HU
    obtain ⟨G, hG⟩ : ∃ G, G = gk := ⟨_, rfl⟩
    subst hG
    by_cases hg0 : G = 0
    · subst hg0
      have d1 : decide ((0 : Int) < ((0 : Nat) : Int)) = false := by simp
      have F : Hid (W.ownsRow w.heap.size 5 1 u4 (runE xs).length ((runE xs).map (Value.int .u8))) := by
        have e : ls = [] := List.eq_nil_of_length_eq_zero HL.out
        have := HO.out
        rw [e, runE, List.append_nil] at this
        simp only [Hid]
        rw [← this]; exact HOWN.out
      go_wp2
      try rw [Exit.noGoto_ret]
      go_ret2
      exact ⟨_, rfl, F.out, HON.out⟩
    · have d1 : decide ((0 : Int) < (G : Int)) = true := decide_eq_true (by omega)
      obtain ⟨b, off, cap', e1, hc0⟩ := (HBS.out.past HON.out).at 0 (by rw [HL.out]; omega)
      have ea : al = some ⟨b, off, none⟩ := by simp at e1; exact e1.1
      subst ea
      clear e1
      rw [Nat.add_zero] at hc0
      have hx0 := HUL.out (ls.getD 0 0) (getD_mem0 ls 0 (by rw [HL.out]; omega))
      obtain ⟨x0, hx⟩ : ∃ x0, x0 = ls.getD 0 0 := ⟨_, rfl⟩
      rw [← hx] at hc0 hx0
      have HX := hideIt hx
      clear hx
      go_wp2
      obtain ⟨O4, hO4⟩ : ∃ O4, O4 = u4 := ⟨_, rfl⟩
      subst hO4
      go_loopg [0, 4, 15] G (fun g2 s0 s4 s15 wy => ∃ j : Nat, j + g2 = G ∧ s0 = .slice (some ⟨b, off, none⟩) G cl ∧ s4 = O4 ∧ s15 = .int .i64 j ∧ Hid (∀ i, i < j → ls.getD i 0 = x0) ∧ W = wy)
      case atStart => exact ⟨0, by omega, rfl, rfl, rfl, (fun i hi => by omega), rfl⟩
      case round =>
        obtain ⟨j, hj, rfl, rfl, rfl, HJ, hw⟩ := hrel
        subst hw
        cases gk with
        | zero =>
          obtain rfl : j = G := by omega
          have R := hideIt (run_any x0 j W hx0.1 hx0.2 (by omega) (by omega))
          have HE : Hid (runE ls = gs x0.toNat ++ gs (j - 1)) := by
            simp only [Hid]
            rw [HX.out, ← HL.out]
            exact runE_all (by rw [HL.out]; omega) (fun i hi => by rw [← HX.out]; exact HJ.out i (by rw [← HL.out]; exact hi))
          go_wp2_with fail
          refine R.out.mono ?_
          rintro e w2 ⟨v2, rfl, own2, o2⟩
          have B2 := hideIt (Bs.of_own own2)
          have N2 := hideIt (NoCap.of_own own2)
          have O2 := hideIt (HON.out.same o2)
          have OWN2 := hideIt (o2.own HOWN.out (fun _ _ f => f))
          rw [← HE.out] at B2
          have HRL : Hid ((runE ls).length ≤ 2000000) := by
            have := congrArg List.length HO.out
            have := HEL.out
            rw [List.length_append] at *
            simp only [Hid]
            omega
          have hsz := O2.out.size
          clear R own2 o2
          go_wp2_with (at_builtin; refine wpList_append_bs _ rfl _ _ _ rfl w.heap.size 5 i0 (.int .u8 0) 1 Try.underlying24 hi hz0 hz1 hz2 rfl _ o.length (o.map (Value.int .u8)) rfl OWN2.out .u8 _ (runE ls) rfl B2.out N2.out ?c3 ?c4 hsz ?_)
          case c3 => have := HRL.out; have := HOL.out; unfold maxLen; omega
          case c4 => have := HRL.out; have := HOL.out; omega
          intro v' w3 own3 hgrow _ _
          have F : Hid (w3.ownsRow w.heap.size 5 1 v' (runE xs).length ((runE xs).map (Value.int .u8)) ∧ Only (fun _ => False) w w3) := by
            refine ⟨?_, O2.out.grown hgrow (fun k hk hq => by have := (OWN2.out.lt k hq).1; omega)⟩
            rw [← HO.out, List.length_append, List.map_append]; exact own3
          clear own3 hgrow
          go_wp2
          try rw [Exit.noGoto_ret]
          go_ret2
          exact ⟨_, rfl, F.out⟩
        | succ g =>
          have jl : j < G := by omega
          obtain ⟨b', off', cap'', e1, hcj⟩ := (HBS.out.past HON.out).at j (by rw [HL.out]; exact jl)
          have e2 : b = b' ∧ off = off' := by simp at e1; exact ⟨e1.1.1, e1.1.2⟩
          obtain ⟨rfl, rfl⟩ := e2
          clear e1
          have i0' : (0 : Int) ≤ (j : Int) := by omega
          have i1 : (j : Int) < (G : Int) := by omega
          obtain ⟨x, hx⟩ : ∃ x, x = ls.getD j 0 := ⟨_, rfl⟩
          rw [← hx] at hcj
          have HXJ := hideIt hx
          clear hx
          by_cases hxx : x = x0
          · subst hxx
            have z0 : (x != x) = false := by simp
            go_wp2
            go_roundg g
            case rel => exact ⟨j + 1, by omega, rfl, rfl, by go_num, (fun i hi => by
              rcases Nat.lt_or_ge i j with h | h
              · exact HJ.out i h
              · obtain rfl : i = j := by omega
                exact HXJ.out.symm), rfl⟩
            case measure => omega
          · have z0 : (x != x0) = true := by simpa using hxx
            have j0 : 0 < j := by
              rcases Nat.eq_zero_or_pos j with h | h
              · subst h
                exact absurd (HXJ.out.trans HX.out.symm) hxx
              · exact h
            have HE : Hid (runE ls = gs x0.toNat ++ gs (j - 1) ++ runE (ls.drop j)) := by
              simp only [Hid]
              rw [HX.out]
              exact runE_step j0 (by rw [HL.out]; exact jl) (fun i hi => by rw [← HX.out]; exact HJ.out i hi) (by rw [← HX.out, ← HXJ.out]; exact hxx)
            have R := hideIt (run_any x0 j W hx0.1 hx0.2 (by omega) (by omega))
            have hcap : G ≤ cl := by
              obtain ⟨_, _, e, h2, _⟩ := HBS.out
              simp at e
              have := HL.out
              omega
            have CUT := HBS.out.cut (n := j) (by omega)
            have hadd : (⟨b, off, none⟩ : Addr).add j = ⟨b, off + j, none⟩ := by unfold Addr.add; split <;> simp_all
            rw [Option.map_some, hadd] at CUT
            have CUT := hideIt CUT
            have k1 : (j : Int) ≤ (G : Int) := by omega
            have k2 : (j : Int) ≤ (cl : Int) := by omega
            have k3 : cl ≠ j := by omega
            go_wp2_with fail
            refine R.out.mono ?_
            rintro e w2 ⟨v2, rfl, own2, o2⟩
            have B2 := hideIt (Bs.of_own own2)
            have N2 := hideIt (NoCap.of_own own2)
            have O2 := hideIt (HON.out.same o2)
            have OWN2 := hideIt (o2.own HOWN.out (fun _ _ f => f))
            have HRL : Hid ((gs x0.toNat ++ gs (j - 1)).length ≤ 2000000) := by
              have h1 := congrArg List.length HO.out
              have h2 := HEL.out
              rw [HE.out] at h1
              simp only [List.length_append] at h1
              simp only [Hid, List.length_append]
              omega
            have hsz := O2.out.size
            obtain ⟨q, hq⟩ : ∃ q, q = gs x0.toNat ++ gs (j - 1) := ⟨_, rfl⟩
            rw [← hq] at B2 HRL HE
            clear R own2 o2 hq
            go_wp2_with (at_builtin; refine wpList_append_bs _ rfl _ _ _ rfl w.heap.size 5 i0 (.int .u8 0) 1 Try.underlying24 hi hz0 hz1 hz2 rfl _ o.length (o.map (Value.int .u8)) rfl OWN2.out .u8 _ q rfl B2.out N2.out ?c3 ?c4 hsz ?_)
            case c3 => have := HRL.out; have := HOL.out; unfold maxLen; omega
            case c4 => have := HRL.out; have := HOL.out; omega
            intro v' w3 own3 hgrow _ _
            have F : Hid (w3.ownsRow w.heap.size 5 1 v' (o ++ q).length ((o ++ q).map (Value.int .u8)) ∧ Only (fun _ => False) w w3) := by
              refine ⟨?_, O2.out.grown hgrow (fun k hk hq => by have := (OWN2.out.lt k hq).1; omega)⟩
              rw [List.length_append, List.map_append]; exact own3
            clear own3 hgrow OWN2 O2 B2 N2
            go_wp2
            go_roundg (G - j)
            case rel => exact ⟨ls.drop j, o ++ q, (by simp only [Hid]; rw [List.length_drop, HL.out]), by omega, CUT.out, (by simp only [Hid]; rw [List.append_assoc, ← HE.out]; exact HO.out), (fun y hy => HUL.out y (List.mem_of_mem_drop hy)), F.out⟩
            case measure => omega
end Go.Proofs.Ytpohcimjfilfoaa
