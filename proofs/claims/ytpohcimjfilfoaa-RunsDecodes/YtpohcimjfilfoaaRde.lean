/- Package runs: runs are read, and bytes decoded. -/
import Derived.Test.YtpohcimjfilfoaaRen
namespace Go.Proofs.Ytpohcimjfilfoaa
open Go.RowKit

theorem Try.infoU64 : (Try.prog.info? 35).map (fun i => (i.zero, i.size, i.bytes)) = some (some (.int .u64 0), 1, 8) := by kernel_rfl

set_option maxHeartbeats 400000 in
set_option maxRecDepth 100000 in
theorem goesOn_q (va : Value) (acc : List Int) (x : Int) (w : World) (h : Bs .u64 w va acc) (hl : acc.length ≤ 70000) :
    Calls Try.prog 20 #[va, .int .u64 x] w fun e w' => e = .returned (.bool (runOn acc x)) ∧ w = w' := by
  by_cases h0 : 0 < acc.length
  · obtain ⟨b, off, cap, rfl, hc⟩ := h.at (acc.length - 1) (by omega)
    have HR : Hid (runOn acc x = (acc.getD (acc.length - 1) 0 == x)) := by
      simp only [Hid, runOn]
      rw [decide_eq_true h0, Bool.true_and]
    generalize acc.getD (acc.length - 1) 0 = y at *
    obtain ⟨m, hm⟩ : ∃ m, acc.length = m + 1 := ⟨acc.length - 1, by omega⟩
    rw [hm] at hc hl ⊢
    rw [Nat.add_sub_cancel] at hc
    clear h hm h0
    have d0 : decide ((0 : Int) < ((m + 1 : Nat) : Int)) = true := decide_eq_true (by omega)
    go_enter Try.func20, Try.ntmps20
    go_wp2
    go_ret
    exact ⟨by rw [HR.out]; rfl, rfl⟩
  · have e : acc = [] := List.eq_nil_of_length_eq_zero (by omega)
    subst e
    obtain ⟨ao, cap, rfl⟩ := h.len
    clear h h0
    go_enter Try.func20, Try.ntmps20
    go_wp2
    go_ret
    exact ⟨rfl, rfl⟩

set_option maxHeartbeats 400000 in
set_option maxRecDepth 100000 in
theorem readRun_err1 {w : World} {R : Nat} {v : Value} {ys : List Int} (h : CurAt 51 w R v ys) {a : Int} {k : Nat} {c : Int} (hs : sVarint ys = (a, k, c)) (hc : c ≠ 0) :
    Calls Try.prog 19 #[.pointer (some ⟨R, 0, none⟩)] w fun e w' => e = .returned (.tuple #[.int .u64 0, .int .u64 0, .int .i64 c]) ∧ Only (fun k => k = R) w w' := by
  have A := varint_cur h
  rw [hs] at A
  have A := hideIt A
  have dc : (c != 0) = true := by simpa using hc
  clear h hs
  go_enter Try.func19, Try.ntmps19
  go_wp2_with fail
  refine A.out.mono ?_
  rintro e w1 ⟨rfl, v2, _, _, o1⟩
  have O1 := hideIt o1
  clear A o1
  go_wp2
  go_ret3
  exact ⟨rfl, O1.out⟩

set_option maxHeartbeats 400000 in
set_option maxRecDepth 100000 in
theorem readRun_err2 {w : World} {R : Nat} {v : Value} {ys : List Int} (h : CurAt 51 w R v ys) {a b : Int} {k j : Nat} {c : Int} (hs : sVarint ys = (a, k, 0)) (hs2 : sVarint (ys.drop k) = (b, j, c)) (hc : c ≠ 0) :
    Calls Try.prog 19 #[.pointer (some ⟨R, 0, none⟩)] w fun e w' => e = .returned (.tuple #[.int .u64 0, .int .u64 0, .int .i64 c]) ∧ Only (fun k => k = R) w w' := by
  have A := varint_cur h
  rw [hs] at A
  have A := hideIt A
  have HS2 := hideIt hs2
  have dc : (c != 0) = true := by simpa using hc
  clear h hs hs2
  go_enter Try.func19, Try.ntmps19
  go_wp2_with fail
  refine A.out.mono ?_
  rintro e w1 ⟨rfl, v2, cur2, _, o1⟩
  have B := varint_cur cur2
  rw [HS2.out] at B
  have B := hideIt B
  have O1 := hideIt o1
  clear A o1 cur2
  go_wp2_with fail
  refine B.out.mono ?_
  rintro e w2 ⟨rfl, v3, _, _, o2⟩
  have O2 := hideIt (O1.out.trans o2 (fun _ _ e => e))
  clear B o2
  go_wp2
  go_ret3
  exact ⟨rfl, O2.out⟩

set_option maxHeartbeats 400000 in
set_option maxRecDepth 100000 in
theorem readRun_ok {w : World} {R : Nat} {v : Value} {ys : List Int} (h : CurAt 51 w R v ys) {a b : Int} {k j : Nat} (hs : sVarint ys = (a, k, 0)) (hs2 : sVarint (ys.drop k) = (b, j, 0)) :
    Calls Try.prog 19 #[.pointer (some ⟨R, 0, none⟩)] w fun e w' => e = .returned (.tuple #[.int .u64 a, .int .u64 b, .int .i64 0]) ∧ ∃ v2, CurAt 51 w' R v2 ((ys.drop k).drop j) ∧ v2.ownBlock = v.ownBlock ∧ Only (fun k => k = R) w w' := by
  have A := varint_cur h
  rw [hs] at A
  have A := hideIt A
  have HS2 := hideIt hs2
  clear h hs hs2
  go_enter Try.func19, Try.ntmps19
  go_wp2_with fail
  refine A.out.mono ?_
  rintro e w1 ⟨rfl, v2, cur2, ob2, o1⟩
  have B := varint_cur cur2
  rw [HS2.out] at B
  have B := hideIt B
  have O1 := hideIt o1
  have OB := hideIt ob2
  clear A o1 cur2 ob2
  go_wp2_with fail
  refine B.out.mono ?_
  rintro e w2 ⟨rfl, v3, cur3, ob3, o2⟩
  have F := hideIt (And.intro cur3 (And.intro (ob3.trans OB.out) (O1.out.trans o2 (fun _ _ e => e))))
  clear B o2 cur3 ob3
  go_wp2
  go_ret3
  exact ⟨rfl, v3, F.out⟩

set_option maxHeartbeats 400000 in
set_option maxRecDepth 100000 in
theorem run_decode_arg (v : Value) (n : Int) (w : World) (h : n < 0 ∨ 65536 < n) :
    Calls Try.prog 13 #[v, .int .i64 n] w fun e w' => e = .returned (.tuple #[.slice none 0 0, .int .i64 1]) ∧ w = w' := by
  by_cases h0 : n < 0
  · have d0 : decide (n < 0) = true := decide_eq_true h0
    clear h
    go_enter Try.func13, Try.ntmps13
    go_wp2
    go_ret2
    exact ⟨rfl, rfl⟩
  · have d0 : decide (n < 0) = false := decide_eq_false h0
    have d1 : decide (65536 < n) = true := decide_eq_true (by omega)
    clear h
    go_enter Try.func13, Try.ntmps13
    go_wp2
    go_ret2
    exact ⟨rfl, rfl⟩
theorem rep_snoc (acc : List Int) (i : Nat) (a : Int) : acc ++ List.replicate (i + 1) a = acc ++ List.replicate i a ++ [a] := by
  rw [List.replicate_succ', List.append_assoc]

set_option maxHeartbeats 1600000 in
set_option maxRecDepth 100000 in
/-- BYTES ARE DECODED: new memory. -/
theorem run_decode_bs (v : Value) (ys : List Int) (n : Nat) (w : World) (h : Bs .u8 w v ys) (hr : ∀ y ∈ ys, 0 ≤ y ∧ y ≤ 255) (hl : ys.length ≤ 1000000000000) (hn : n ≤ 65536) :
    Calls Try.prog 13 #[v, .int .i64 n] w fun e w' => ∃ u, e = .returned (.tuple #[u, .int .i64 (runDec ys n).2]) ∧ w'.ownsRow w.heap.size 35 1 u (runDec ys n).1.length ((runDec ys n).1.map (Value.int .u64)) ∧ Only (fun _ => False) w w' := by
  obtain ⟨i0, hi, hz0, hz1, hz2⟩ := info_parts Try.infoU64
  have d0 : decide ((n : Int) < 0) = false := by simp
  have d1 : decide (65536 < (n : Int)) = false := by simp; omega
  have NW := hideIt (new_bs v ys w h hr hl)
  clear h hr
  go_enter Try.func13, Try.ntmps13
  go_wp2_with fail
  refine NW.out.mono ?_
  rintro e w1 ⟨R, v1, rfl, cur, o1, r0, r1, hv1⟩
  have HV1 := hideIt hv1
  have O1 := hideIt o1
  have CUR := hideIt cur
  have HR0 := hideIt (And.intro r0 o1.size)
  clear NW cur o1 hv1
  go_wp2
  go_loopg [7] n (fun g s7 wx => ∃ (f : Nat) (acc ys' : List Int) (v' : Value), wx.ownsRow w1.heap.size 35 1 s7 acc.length (acc.map (Value.int .u64)) ∧ CurAt 51 wx R v' ys' ∧ v'.ownBlock = v1.ownBlock ∧ Hid (acc.length + g = n) ∧ Hid (g < f) ∧ Hid (runD f acc ys' n = runDec ys n) ∧ Only (fun k => k = R) w1 wx)
  case atStart => exact ⟨n + 1, [], ys, v1, World.ownsRow_nil _ _ _ _, CUR.out, rfl, (by simp [Hid]), (by simp [Hid]), rfl, Only.refl _ _⟩
  case round =>
    obtain ⟨f, acc, ys', v', hown, hcur, hob, HG, HF, HD, hon⟩ := hrel
    clear CUR
    obtain ⟨W, hW⟩ : ∃ W, W = wr := ⟨_, rfl⟩
    subst hW
    obtain ⟨G, hG⟩ : ∃ G, G = gk := ⟨_, rfl⟩
    subst hG
    have HOWN := hideIt hown
    have HCUR := hideIt hcur
    have HOB := hideIt hob
    have HON := hideIt hon
    obtain ⟨a7, c7, e7⟩ := (Bs.of_own hown).len
    obtain ⟨m, hm⟩ : ∃ m, m = acc.length := ⟨_, rfl⟩
    rw [← hm] at e7 HOWN
    have HM := hideIt hm
    have hmn : m + G = n := by rw [hm]; exact HG.out
    subst e7
    by_cases hlt : G = 0
    · have d2 : decide ((m : Int) < (n : Int)) = false := decide_eq_false (by omega)
      have EC := hideIt (end_cur hcur)
      have HR := runD_done (f := f) (acc := acc) (ys := ys') (n := n) (by omega) (by have := HF.out; omega)
      rw [HD.out] at HR
      have HR := hideIt HR
      clear hown hcur hob hon hm
      by_cases hy : 0 < ys'.length
      · have HE : Hid (endV ys' = 3) := if_pos hy
        rw [if_pos hy] at HR
        rw [HE.out] at EC
        go_wp2_with fail
        refine EC.out.mono ?_
        rintro e w2 ⟨rfl, rfl⟩
        go_wp2
        go_ret2
        rw [HR.out]
        exact ⟨_, rfl, World.ownsRow_nil _ _ _ _, O1.out.trans HON.out (fun k hk e => by have := HR0.out.1; omega)⟩
      · have HE : Hid (endV ys' = 0) := if_neg hy
        rw [if_neg hy] at HR
        rw [HE.out] at EC
        go_wp2_with fail
        refine EC.out.mono ?_
        rintro e w2 ⟨rfl, rfl⟩
        go_wp2
        go_ret2
        rw [HR.out]
        exact ⟨_, rfl, by simp only; rw [← HM.out]; exact own_low HOWN.out HR0.out.2, O1.out.trans HON.out (fun k hk e => by have := HR0.out.1; omega)⟩
    · have d2 : decide ((m : Int) < (n : Int)) = true := decide_eq_true (by omega)
      have fp : 0 < f := by have := HF.out; omega
      have hln : acc.length < n := by omega
      rcases sVarint_cases hcur.rng with ⟨c, hs, hc⟩ | ⟨a, k, hs, k1, k2, ha, _⟩
      · have HR := runD_err1 hln fp hs (by omega)
        rw [HD.out] at HR
        have HR := hideIt HR
        have RR := hideIt (readRun_err1 hcur hs (by omega))
        have dc : (c != 0) = true := by simp; omega
        clear hown hcur hob hon hm hs hln
        go_wp2_with fail
        refine RR.out.mono ?_
        rintro e w2 ⟨rfl, o2⟩
        have O2 := hideIt (HON.out.trans o2 (fun _ _ e => e))
        clear RR o2
        go_wp2
        go_ret2
        rw [HR.out]
        exact ⟨_, rfl, World.ownsRow_nil _ _ _ _, O1.out.trans O2.out (fun k hk e => by have := HR0.out.1; omega)⟩
      · have hr2 : ∀ y ∈ ys'.drop k, 0 ≤ y ∧ y ≤ 255 := fun y hy => hcur.rng y (List.mem_of_mem_drop hy)
        rcases sVarint_cases hr2 with ⟨c, hs2, hc⟩ | ⟨b, j, hs2, j1, j2, hb, _⟩
        · have HR := runD_err2 hln fp hs hs2 (by omega)
          rw [HD.out] at HR
          have HR := hideIt HR
          have RR := hideIt (readRun_err2 hcur hs hs2 (by omega))
          have dc : (c != 0) = true := by simp; omega
          clear hown hcur hob hon hm hs hln hs2 hr2
          go_wp2_with fail
          refine RR.out.mono ?_
          rintro e w2 ⟨rfl, o2⟩
          have O2 := hideIt (HON.out.trans o2 (fun _ _ e => e))
          clear RR o2
          go_wp2
          go_ret2
          rw [HR.out]
          exact ⟨_, rfl, World.ownsRow_nil _ _ _ _, O1.out.trans O2.out (fun k hk e => by have := HR0.out.1; omega)⟩
        · have RR := hideIt (readRun_ok hcur hs hs2)
          have hq : (n : Int) - (m : Int) = (G : Int) := by omega
          have HS := hideIt (And.intro hs hs2)
          by_cases hbG : G ≤ b
          · have HR := runD_err3 hln fp hs hs2 (.inl (by omega))
            rw [HD.out] at HR
            have HR := hideIt HR
            have dg : decide ((G : Int) ≤ (b : Int)) = true := decide_eq_true (by omega)
            clear hown hcur hob hon hm hs hln hs2 hr2
            go_wp2_with fail
            refine RR.out.mono ?_
            rintro e w2 ⟨rfl, v2, _, _, o2⟩
            have O2 := hideIt (HON.out.trans o2 (fun _ _ e => e))
            clear RR o2
            go_wp2
            go_ret2
            rw [HR.out]
            exact ⟨_, rfl, World.ownsRow_nil _ _ _ _, O1.out.trans O2.out (fun k hk e => by have := HR0.out.1; omega)⟩
          · have dg : decide ((G : Int) ≤ (b : Int)) = false := decide_eq_false (by omega)
            cases ho : runOn acc (a : Int) with
            | true =>
              have HR := runD_err3 hln fp hs hs2 (.inr ho)
              rw [HD.out] at HR
              have HR := hideIt HR
              have HOA := hideIt ho
              clear hown hcur hob hon hm hs hln hs2 hr2 ho
              go_wp2_with fail
              refine RR.out.mono ?_
              rintro e w2 ⟨rfl, v2, _, _, o2⟩
              have O2 := hideIt (HON.out.trans o2 (fun _ _ e => e))
              have OW2 := o2.own HOWN.out (fun k hk e => by have := (HOWN.out.lt k hk).1; omega)
              have GO := goesOn_q (.slice a7 m c7) acc a w2 (Bs.of_own (by rw [← HM.out]; exact OW2)) (by rw [← HM.out]; omega)
              rw [HOA.out] at GO
              have GO := hideIt GO
              clear RR o2 OW2
              go_wp2_with fail
              refine GO.out.mono ?_
              rintro e w3 ⟨rfl, rfl⟩
              go_wp2
              go_ret2
              rw [HR.out]
              exact ⟨_, rfl, World.ownsRow_nil _ _ _ _, O1.out.trans O2.out (fun k hk e => by have := HR0.out.1; omega)⟩
            | false =>
              have HR := runD_next hln fp hs hs2 (by omega) ho
              rw [HD.out] at HR
              have HR := hideIt HR
              have HOA := hideIt ho
              have ha0 : (a : Int) ≤ 18446744073709551615 := by omega
              clear hown hcur hob hon hm hs hln hs2 hr2 ho
              go_wp2_with fail
              refine RR.out.mono ?_
              rintro e w2 ⟨rfl, v2, cur2, ob2, o2⟩
              have O2 := hideIt (HON.out.trans o2 (fun _ _ e => e))
              have OW2 := hideIt (o2.own HOWN.out (fun k hk e => by have := (HOWN.out.lt k hk).1; omega))
              have GO := goesOn_q (.slice a7 m c7) acc a w2 (Bs.of_own (by rw [← HM.out]; exact OW2.out)) (by rw [← HM.out]; omega)
              rw [HOA.out] at GO
              have GO := hideIt GO
              have CUR2 := hideIt cur2
              have OB2 := hideIt (ob2.trans HOB.out)
              clear RR o2 cur2 ob2
              go_wp2_with fail
              refine GO.out.mono ?_
              rintro e w3 ⟨rfl, rfl⟩
              have LIN := hideIt (O2.out.size)
              go_wp2
              go_loopg [7, 47] (b + 1) (fun g2 s7 s47 wy => ∃ i : Nat, i + g2 = b + 1 ∧ s47 = .int .u64 i ∧ wy.ownsRow w1.heap.size 35 1 s7 (m + i) ((acc ++ List.replicate i (a : Int)).map (Value.int .u64)) ∧ Only (fun k => w1.heap.size ≤ k) w2 wy)
              case atStart => exact ⟨0, by omega, rfl, by simpa using OW2.out, Only.refl _ _⟩
              case round =>
                obtain ⟨i, hib, rfl, hown, hon⟩ := hrel
                have HX := hideIt hon
                have hsz : w1.heap.size ≤ wr.heap.size := Nat.le_trans LIN.out hon.size
                clear OW2 GO hon
                cases gk with
                | zero =>
                  obtain rfl : i = b + 1 := by omega
                  have F : Hid (wr.ownsRow w1.heap.size 35 1 u7 (acc ++ List.replicate (b + 1) (a : Int)).length ((acc ++ List.replicate (b + 1) (a : Int)).map (Value.int .u64)) ∧ CurAt 51 wr R v2 ((ys'.drop k).drop j) ∧ v2.ownBlock = v1.ownBlock ∧ Only (fun k => k = R) w1 wr) := by
                    refine ⟨by rw [List.length_append, List.length_replicate, ← HM.out]; exact hown, CUR2.out.keep HX.out (by omega) (fun q hq e => ?_), OB2.out, O2.out.trans HX.out (fun q hq e => absurd e (by omega))⟩
                    rw [OB2.out] at hq
                    have := (HV1.out q hq).2
                    omega
                  have HLN : Hid ((acc ++ List.replicate (b + 1) (a : Int)).length + (G - (b + 1)) = n) := by
                    simp only [Hid]
                    rw [List.length_append, List.length_replicate, ← HM.out]; omega
                  have d3 : decide (((b + 1 : Nat) : Int) < ((b : Int) + 1)) = false := by simp
                  clear hown HX
                  go_wp2
                  go_roundg (G - (b + 1))
                  case rel => exact ⟨f - 1, _, _, v2, F.out.1, F.out.2.1, F.out.2.2.1, HLN.out, (by have := HF.out; simp only [Hid]; omega), HR.out.symm, F.out.2.2.2⟩
                  case measure => omega
                | succ g =>
                  have d3 : decide ((i : Int) < ((b : Int) + 1)) = true := decide_eq_true (by omega)
                  go_wp2_with (at_builtin; refine wpList_append_lies _ rfl _ _ _ rfl w1.heap.size 35 i0 (.int .u64 0) 1 8 Try.underlying22 hi hz0 hz1 hz2 rfl (by omega) _ (m + i) _ rfl (hown.alloc _) ⟨wr.heap.size, 0, none⟩ 1 1 [.int .u64 (a : Int)] rfl rfl ?c1 ?c2 (by omega) ?c3 ?c4 ?c5 (wr.heap.size + 1) (by simp) ?_)
                  case c1 => exact cell_one_new _ _ _
                  case c2 => intro u hu; simp at hu; subst hu; rfl
                  case c3 => unfold maxLen; omega
                  case c4 => omega
                  case c5 => simp; omega
                  intro gg cap1 w3 hown1 hgrow hat hg1
                  have o3 := hideIt ((HX.out.alloc _).grown hgrow (fun p _ hp => (hown.lt p hp).1))
                  have own3 : Hid (w3.ownsRow w1.heap.size 35 1 (.slice (some ⟨gg, 0, none⟩) (m + i + 1) cap1) (m + (i + 1)) ((acc ++ List.replicate (i + 1) (a : Int)).map (Value.int .u64))) := by
                    simp only [Hid]
                    rw [rep_snoc, ← Nat.add_assoc]; simpa using hown1
                  clear hown hown1 hgrow hat HX
                  go_wp2
                  go_roundg g
                  case rel => exact ⟨i + 1, by omega, by go_num, own3.out, o3.out⟩
                  case measure => omega
end Go.Proofs.Ytpohcimjfilfoaa
