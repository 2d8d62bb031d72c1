/- The reference's Decode of bytes as runs. -/
import Derived.Test.YtgbimghhdbmjiaaGreatG10
import Derived.Test.YtgbimghhdbmjiaaGreatCRef2
namespace Go.Proofs.YtgbimghhdbmjiaaGreat
open Go.RowKit

set_option maxHeartbeats 400000 in
set_option maxRecDepth 100000 in
/-- .. whatever world the bytes are read in: what is left lies where they lie -/
theorem rvarint_at (ao : Option Addr) (m cap : Nat) (ys : List Int) (w : World) (h : Bs .u8 w (.slice ao m cap) ys) (nc : NoCap (.slice ao m cap)) (hr : ∀ y ∈ ys, 0 ≤ y ∧ y ≤ 255) {a : Int} {k : Nat} {c : Int} (hs : sVarint ys = (a, k, c)) :
    Calls Tryz.prog 30 #[.slice ao m cap] w fun e w' => ∃ ao' m' cap', e = .returned (.tuple #[.int .u64 a, .slice ao' m' cap', .int .i64 c]) ∧ (∀ w0, Bs .u8 w0 (.slice ao m cap) ys → Bs .u8 w0 (.slice ao' m' cap') (ys.drop k)) ∧ NoCap (.slice ao' m' cap') ∧ Only (fun _ => False) w w' := by
  obtain ⟨hrd, hk⟩ := sVarint_rd ys hr hs
  have hl := h.length
  have A := hideIt (rread_as _ ys w hrd h hr)
  have hc : m ≤ cap := by
    obtain ⟨ao', cap', e, hcap, _⟩ := h
    simp at e
    omega
  have j0 : (0 : Int) ≤ (k : Int) := by omega
  have j1 : (k : Int) ≤ (m : Int) := by omega
  have j2 : (k : Int) ≤ (cap : Int) := by omega
  have HH := hideIt (And.intro h nc)
  clear h nc hrd hs hk hl
  by_cases hcn : cap = k
  · subst hcn
    have H := hideIt (And.intro (fun (w0 : World) (h0 : Bs .u8 w0 (.slice ao m cap) ys) => h0.cut0 (n := cap) (by omega)) (HH.out.2.rest (n := cap) (m' := m - cap)))
    rw [if_pos rfl, Nat.sub_self] at H
    clear HH hc
    go_enter Tryz.func30, Tryz.ntmps30
    go_wp2_with fail
    refine A.out.mono ?_
    rintro e w1 ⟨rfl, rfl⟩
    go_wp2
    go_quiet (fail)
    go_wp2
    go_ret3
    exact ⟨_, _, _, rfl, H.out.1, H.out.2, (Only.refl _ _).drewN nq⟩
  · have H := hideIt (And.intro (fun (w0 : World) (h0 : Bs .u8 w0 (.slice ao m cap) ys) => h0.cut (n := k) (by omega)) (HH.out.2.rest (n := k) (m' := m - k)))
    rw [if_neg hcn] at H
    clear HH
    go_enter Tryz.func30, Tryz.ntmps30
    go_wp2_with fail
    refine A.out.mono ?_
    rintro e w1 ⟨rfl, rfl⟩
    go_wp2
    go_quiet (fail)
    go_wp2
    go_ret3
    exact ⟨_, _, _, rfl, H.out.1, H.out.2, (Only.refl _ _).drewN nq⟩

set_option maxHeartbeats 400000 in
set_option maxRecDepth 100000 in
theorem run_rdecode_arg (v : Value) (n : Int) (w : World) (h : n < 0 ∨ 65536 < n) :
    Calls Tryz.prog 33 #[v, .int .i64 n] w fun e w' => e = .returned (.tuple #[.slice none 0 0, .int .i64 1]) ∧ w = w' := by
  by_cases h0 : n < 0
  · have d0 : decide (n < 0) = true := decide_eq_true h0
    clear h
    go_enter Tryz.func33, Tryz.ntmps33
    go_wp2
    go_ret2
    exact ⟨rfl, rfl⟩
  · have d0 : decide (n < 0) = false := decide_eq_false h0
    have d1 : decide (65536 < n) = true := decide_eq_true (by omega)
    clear h
    go_enter Tryz.func33, Tryz.ntmps33
    go_wp2
    go_ret2
    exact ⟨rfl, rfl⟩

set_option maxHeartbeats 1600000 in
set_option maxRecDepth 100000 in
theorem run_rdecode_bs (v : Value) (ys : List Int) (n : Nat) (w : World) (h : Bs .u8 w v ys) (nc : NoCap v) (hr : ∀ y ∈ ys, 0 ≤ y ∧ y ≤ 255) (hn : n ≤ 65536) :
    Calls Tryz.prog 33 #[v, .int .i64 n] w fun e w' => ∃ u, e = .returned (.tuple #[u, .int .i64 (runDec ys n).2]) ∧ w'.ownsRow w.heap.size 42 1 u (runDec ys n).1.length ((runDec ys n).1.map (Value.int .u64)) ∧ Only (fun _ => False) w w' := by
  obtain ⟨i0, hi, hz0, hz1, hz2⟩ := info_parts Tryz.infoU64
  have d0 : decide ((n : Int) < 0) = false := by simp
  have d1 : decide (65536 < (n : Int)) = false := by simp; omega
  have HB := hideIt (And.intro h (And.intro nc hr))
  clear h nc hr
  go_enter Tryz.func33, Tryz.ntmps33
  go_wp2
  go_loopg [0, 6] n (fun g s0 s6 wx => ∃ (f : Nat) (acc ys' : List Int), wx.ownsRow w.heap.size 42 1 s6 acc.length (acc.map (Value.int .u64)) ∧ Bs .u8 w s0 ys' ∧ NoCap s0 ∧ Hid (∀ y ∈ ys', 0 ≤ y ∧ y ≤ 255) ∧ Hid (acc.length + g = n) ∧ Hid (g < f) ∧ Hid (runD f acc ys' n = runDec ys n) ∧ Only (fun _ => False) w wx)
  case atStart => exact ⟨n + 1, [], ys, World.ownsRow_nil _ _ _ _, HB.out.1, HB.out.2.1, HB.out.2.2, (by simp [Hid]), (by simp [Hid]), rfl, Only.refl _ _⟩
  case round =>
    obtain ⟨f, acc, ys', hown, hbs, hnc, HRG, HG, HF, HD, hon⟩ := hrel
    clear HB
    obtain ⟨W, hW⟩ : ∃ W, W = wr := ⟨_, rfl⟩
    subst hW
    obtain ⟨G, hG⟩ : ∃ G, G = gk := ⟨_, rfl⟩
    subst hG
    have HOWN := hideIt hown
    have HON := hideIt hon
    have HBS := hideIt hbs
    have HNC := hideIt hnc
    obtain ⟨ab, cb, eb⟩ := hbs.len
    obtain ⟨a7, c7, e7⟩ := (Bs.of_own hown).len
    obtain ⟨m, hm⟩ : ∃ m, m = acc.length := ⟨_, rfl⟩
    rw [← hm] at e7 HOWN
    have HM := hideIt hm
    have hmn : m + G = n := by rw [hm]; exact HG.out
    obtain ⟨q, hq⟩ : ∃ q, q = ys'.length := ⟨_, rfl⟩
    rw [← hq] at eb
    have HQ := hideIt hq
    subst e7 eb
    clear hown hon hbs hnc hq
    by_cases hlt : G = 0
    · have d2 : decide ((m : Int) < (n : Int)) = false := decide_eq_false (by omega)
      have HR := runD_done (f := f) (acc := acc) (ys := ys') (n := n) (by omega) (by have := HF.out; omega)
      rw [HD.out] at HR
      have HR := hideIt HR
      clear hm
      by_cases hy : 0 < ys'.length
      · rw [if_pos hy] at HR
        have d3 : decide ((0 : Int) < (q : Int)) = true := decide_eq_true (by rw [HQ.out]; omega)
        have d4 : 0 < q := by rw [HQ.out]; exact hy
        go_wp2
        go_ret2
        rw [HR.out]
        exact ⟨_, rfl, World.ownsRow_nil _ _ _ _, HON.out⟩
      · rw [if_neg hy] at HR
        have d3 : decide ((0 : Int) < (q : Int)) = false := decide_eq_false (by rw [HQ.out]; omega)
        have d4 : ¬ 0 < q := by rw [HQ.out]; exact hy
        go_wp2
        go_ret2
        rw [HR.out]
        exact ⟨_, rfl, by simp only; rw [← HM.out]; exact HOWN.out, HON.out⟩
    · have d2 : decide ((m : Int) < (n : Int)) = true := decide_eq_true (by omega)
      have fp : 0 < f := by have := HF.out; omega
      have hln : acc.length < n := by omega
      clear hm
      rcases sVarint_cases HRG.out with ⟨c, hs, hc⟩ | ⟨a, k, hs, k1, k2, ha, _⟩
      · have HR := runD_err1 hln fp hs (by omega)
        rw [HD.out] at HR
        have HR := hideIt HR
        have RV := hideIt (rvarint_at ab q cb ys' W (HBS.out.past HON.out) HNC.out HRG.out hs)
        have dc : (c != 0) = true := by simp; omega
        clear hs hln
        go_wp2_with fail
        refine RV.out.mono ?_
        rintro e w2 ⟨ao2, m2, cap2, rfl, _, _, o2⟩
        have O2 := hideIt (HON.out.same o2)
        clear RV o2
        go_wp2
        go_ret2
        rw [HR.out]
        exact ⟨_, rfl, World.ownsRow_nil _ _ _ _, O2.out⟩
      · have hr2 : ∀ y ∈ ys'.drop k, 0 ≤ y ∧ y ≤ 255 := fun y hy => HRG.out y (List.mem_of_mem_drop hy)
        have RV := hideIt (rvarint_at ab q cb ys' W (HBS.out.past HON.out) HNC.out HRG.out hs)
        have HR2 := hideIt hr2
        rcases sVarint_cases hr2 with ⟨c, hs2, hc⟩ | ⟨b, j, hs2, j1, j2, hb, _⟩
        · have HR := runD_err2 hln fp hs hs2 (by omega)
          rw [HD.out] at HR
          have HR := hideIt HR
          have HS2 := hideIt hs2
          have dc : (c != 0) = true := by simp; omega
          clear hs hln hs2 hr2
          go_wp2_with fail
          refine RV.out.mono ?_
          rintro e w2 ⟨ao2, m2, cap2, rfl, hb2, nc2, o2⟩
          have O2 := hideIt (HON.out.same o2)
          have RW := hideIt (rvarint_at ao2 m2 cap2 (ys'.drop k) w2 (hb2 w2 (HBS.out.past O2.out)) nc2 HR2.out HS2.out)
          clear RV o2 hb2 nc2
          go_wp2_with fail
          refine RW.out.mono ?_
          rintro e w3 ⟨ao3, m3, cap3, rfl, _, _, o3⟩
          have O3 := hideIt (O2.out.same o3)
          clear RW o3
          go_wp2
          go_ret2
          rw [HR.out]
          exact ⟨_, rfl, World.ownsRow_nil _ _ _ _, O3.out⟩
        · have hq : (n : Int) - (m : Int) = (G : Int) := by omega
          have HS2 := hideIt hs2
          have hcase : (G ≤ b) ∨ (¬ G ≤ b ∧ m = 0) ∨ (¬ G ≤ b ∧ 0 < m) := by omega
          rcases hcase with hbG | ⟨hbG, hm0⟩ | ⟨hbG, hm0⟩
          · have HR := runD_err3 hln fp hs hs2 (.inl (by have := HM.out; omega))
            rw [HD.out] at HR
            have HR := hideIt HR
            have dg : decide ((G : Int) ≤ (b : Int)) = true := decide_eq_true (by omega)
            clear hs hln hs2 hr2
            go_wp2_with fail
            refine RV.out.mono ?_
            rintro e w2 ⟨ao2, m2, cap2, rfl, hb2, nc2, o2⟩
            have O2 := hideIt (HON.out.same o2)
            have RW := hideIt (rvarint_at ao2 m2 cap2 (ys'.drop k) w2 (hb2 w2 (HBS.out.past O2.out)) nc2 HR2.out HS2.out)
            clear RV o2 hb2 nc2
            go_wp2_with fail
            refine RW.out.mono ?_
            rintro e w3 ⟨ao3, m3, cap3, rfl, _, _, o3⟩
            have O3 := hideIt (O2.out.same o3)
            clear RW o3
            go_wp2
            go_ret2
            rw [HR.out]
            exact ⟨_, rfl, World.ownsRow_nil _ _ _ _, O3.out⟩
          · have ho : runOn acc (a : Int) = false := by
              have : acc = [] := List.eq_nil_of_length_eq_zero (by rw [← HM.out]; exact hm0)
              rw [this]; rfl
            have HR := runD_next hln fp hs hs2 (by have := HM.out; omega) ho
            rw [HD.out] at HR
            have HR := hideIt HR
            have dg : decide ((G : Int) ≤ (b : Int)) = false := decide_eq_false (by omega)
            have dm : decide ((0 : Int) < (m : Int)) = false := decide_eq_false (by omega)
            have dm2 : decide (0 < m) = false := decide_eq_false (by omega)
            have ha0 : (a : Int) ≤ 18446744073709551615 := by omega
            clear hs hln hs2 hr2 ho hm0
            go_wp2_with fail
            refine RV.out.mono ?_
            rintro e w2 ⟨ao2, m2, cap2, rfl, hb2, nc2, o2⟩
            have O2 := hideIt (HON.out.same o2)
            have RW := hideIt (rvarint_at ao2 m2 cap2 (ys'.drop k) w2 (hb2 w2 (HBS.out.past O2.out)) nc2 HR2.out HS2.out)
            have HB2 := hideIt (hb2 w HBS.out)
            have OO2 := hideIt o2
            clear RV o2 hb2 nc2
            go_wp2_with fail
            refine RW.out.mono ?_
            rintro e w3 ⟨ao3, m3, cap3, rfl, hb3, nc3, o3⟩
            have O3 := hideIt (O2.out.same o3)
            have HB3 := hideIt (hb3 w HB2.out)
            have NC3 := hideIt nc3
            have OW3 := hideIt (OO2.out.same o3)
            have OWN3 := hideIt (OW3.out.own HOWN.out (fun _ _ f => f))
            clear RW o3 hb3 nc3
            have LIN := hideIt (O3.out.size)
            go_wp2
            go_loopg [6, 13] (b + 1) (fun g2 s6 s13 wy => ∃ i : Nat, i + g2 = b + 1 ∧ s13 = .int .u64 i ∧ wy.ownsRow w.heap.size 42 1 s6 (m + i) ((acc ++ List.replicate i (a : Int)).map (Value.int .u64)) ∧ Only (fun _ => False) w wy)
            case atStart => exact ⟨0, by omega, rfl, by simpa using OWN3.out, O3.out⟩
            case round =>
              obtain ⟨i, hib, rfl, hown, hon⟩ := hrel
              have HX := hideIt hon
              have hsz : w.heap.size ≤ wr.heap.size := hon.size
              clear OWN3 hon
              cases gk with
              | zero =>
                obtain rfl : i = b + 1 := by omega
                have F : Hid (wr.ownsRow w.heap.size 42 1 u6 (acc ++ List.replicate (b + 1) (a : Int)).length ((acc ++ List.replicate (b + 1) (a : Int)).map (Value.int .u64))) := by
                  simp only [Hid]
                  rw [List.length_append, List.length_replicate, ← HM.out]; exact hown
                have HLN : Hid ((acc ++ List.replicate (b + 1) (a : Int)).length + (G - (b + 1)) = n) := by
                  simp only [Hid]
                  rw [List.length_append, List.length_replicate, ← HM.out]; omega
                have d5 : decide (((b : Int) + 1) ≤ (b : Int)) = false := decide_eq_false (by omega)
                have d6 : decide (b + 1 ≤ b) = false := decide_eq_false (by omega)
                clear hown
                go_wp2
                go_roundg (G - (b + 1))
                case rel => exact ⟨f - 1, _, _, F.out, HB3.out, NC3.out, (fun y hy => HR2.out y (List.mem_of_mem_drop hy)), HLN.out, (by have := HF.out; simp only [Hid]; omega), HR.out.symm, HX.out⟩
                case measure => omega
              | succ g =>
                have d5 : decide ((i : Int) ≤ (b : Int)) = true := decide_eq_true (by omega)
                have d6 : decide (i ≤ b) = true := decide_eq_true (by omega)
                go_wp2_with (at_builtin; refine wpList_append_lies _ rfl _ _ _ rfl w.heap.size 42 i0 (.int .u64 0) 1 8 Tryz.underlying39 hi hz0 hz1 hz2 rfl (by omega) _ (m + i) _ rfl (hown.alloc _) ⟨wr.heap.size, 0, none⟩ 1 1 [.int .u64 (a : Int)] rfl rfl ?c1 ?c2 (by omega) ?c3 ?c4 ?c5 (wr.heap.size + 1) (by simp) ?_)
                case c1 => exact cell_one_new _ _ _
                case c2 => intro u hu; simp at hu; subst hu; rfl
                case c3 => unfold maxLen; omega
                case c4 => omega
                case c5 => simp; omega
                intro gg cap1 w4 hown1 hgrow hat hg1
                have o3 := hideIt ((HX.out.alloc _).grown hgrow (fun p hp hq => by have := (hown.lt p hq).1; omega))
                have own3 : Hid (w4.ownsRow w.heap.size 42 1 (.slice (some ⟨gg, 0, none⟩) (m + i + 1) cap1) (m + (i + 1)) ((acc ++ List.replicate (i + 1) (a : Int)).map (Value.int .u64))) := by
                  simp only [Hid]
                  rw [rep_snoc, ← Nat.add_assoc]; simpa using hown1
                clear hown hown1 hgrow hat HX
                go_wp2
                go_roundg g
                case rel => exact ⟨i + 1, by omega, by go_num, own3.out, o3.out⟩
                case measure => omega
          · obtain ⟨p, rfl⟩ : ∃ p, m = p + 1 := ⟨m - 1, by omega⟩
            have HY : Hid (runOn acc (a : Int) = (acc.getD p 0 == (a : Int))) := by
              simp only [Hid, runOn]
              rw [← HM.out, decide_eq_true (by omega), Bool.true_and, Nat.add_sub_cancel]
            obtain ⟨bb, off, cap9, e9, _⟩ := (Bs.of_own (by rw [← HM.out]; exact HOWN.out : W.ownsRow w.heap.size 42 1 (.slice a7 (p + 1) c7) acc.length (acc.map (Value.int .u64)))).at p (by rw [← HM.out]; omega)
            have ea : a7 = some ⟨bb, off, none⟩ := by simp at e9; exact e9.1
            subst ea
            clear e9
            have HC : Hid (∀ w' : World, w'.ownsRow w.heap.size 42 1 (.slice (some ⟨bb, off, none⟩) (p + 1) c7) (p + 1) (acc.map (Value.int .u64)) → w'.cell? ⟨bb, off + p, none⟩ = some (.int .u64 (acc.getD p 0))) := by
              intro w' hw
              obtain ⟨b2, off2, cap2, e2, hc2⟩ := (Bs.of_own (by rw [← HM.out]; exact hw : w'.ownsRow w.heap.size 42 1 (.slice (some ⟨bb, off, none⟩) (p + 1) c7) acc.length (acc.map (Value.int .u64)))).at p (by rw [← HM.out]; omega)
              have e3 : bb = b2 ∧ off = off2 := by simp at e2; exact ⟨e2.1.1, e2.1.2⟩
              obtain ⟨rfl, rfl⟩ := e3
              exact hc2
            generalize acc.getD p 0 = y at HY HC
            have dg : decide ((G : Int) ≤ (b : Int)) = false := decide_eq_false (by omega)
            have hq2 : (n : Int) - ((p : Int) + 1) = (G : Int) := by omega
            have d2a : decide ((p : Int) + 1 < (n : Int)) = true := decide_eq_true (by omega)
            have d2b : decide (p + 1 < n) = true := decide_eq_true (by omega)
            have ha0 : (a : Int) ≤ 18446744073709551615 := by omega
            cases hya : (y == (a : Int)) with
            | true =>
              have ho : runOn acc (a : Int) = true := by rw [HY.out]; exact hya
              have HR := runD_err3 hln fp hs hs2 (.inr ho)
              rw [HD.out] at HR
              have HR := hideIt HR
              clear hs hln hs2 hr2 ho
              go_wp2_with fail
              refine RV.out.mono ?_
              rintro e w2 ⟨ao2, m2, cap2, rfl, hb2, nc2, o2⟩
              have O2 := hideIt (HON.out.same o2)
              have RW := hideIt (rvarint_at ao2 m2 cap2 (ys'.drop k) w2 (hb2 w2 (HBS.out.past O2.out)) nc2 HR2.out HS2.out)
              have HB2 := hideIt (hb2 w HBS.out)
              have OO2 := hideIt o2
              clear RV o2 hb2 nc2
              go_wp2_with fail
              refine RW.out.mono ?_
              rintro e w3 ⟨ao3, m3, cap3, rfl, hb3, nc3, o3⟩
              have O3 := hideIt (O2.out.same o3)
              have HB3 := hideIt (hb3 w HB2.out)
              have NC3 := hideIt nc3
              have OW3 := hideIt (OO2.out.same o3)
              have OWN3 := hideIt (OW3.out.own HOWN.out (fun _ _ f => f))
              clear RW o3 hb3 nc3
              have HCC := HC.out w3 OWN3.out
              go_wp2
              go_ret2
              rw [HR.out]
              exact ⟨_, rfl, World.ownsRow_nil _ _ _ _, O3.out⟩
            | false =>
              have ho : runOn acc (a : Int) = false := by rw [HY.out]; exact hya
              have HR := runD_next hln fp hs hs2 (by have := HM.out; omega) ho
              rw [HD.out] at HR
              have HR := hideIt HR
              clear hs hln hs2 hr2 ho
              go_wp2_with fail
              refine RV.out.mono ?_
              rintro e w2 ⟨ao2, m2, cap2, rfl, hb2, nc2, o2⟩
              have O2 := hideIt (HON.out.same o2)
              have RW := hideIt (rvarint_at ao2 m2 cap2 (ys'.drop k) w2 (hb2 w2 (HBS.out.past O2.out)) nc2 HR2.out HS2.out)
              have HB2 := hideIt (hb2 w HBS.out)
              have OO2 := hideIt o2
              clear RV o2 hb2 nc2
              go_wp2_with fail
              refine RW.out.mono ?_
              rintro e w3 ⟨ao3, m3, cap3, rfl, hb3, nc3, o3⟩
              have O3 := hideIt (O2.out.same o3)
              have HB3 := hideIt (hb3 w HB2.out)
              have NC3 := hideIt nc3
              have OW3 := hideIt (OO2.out.same o3)
              have OWN3 := hideIt (OW3.out.own HOWN.out (fun _ _ f => f))
              clear RW o3 hb3 nc3
              have HCC := HC.out w3 OWN3.out
              have LIN := hideIt (O3.out.size)
              go_wp2
              go_loopg [6, 13] (b + 1) (fun g2 s6 s13 wy => ∃ i : Nat, i + g2 = b + 1 ∧ s13 = .int .u64 i ∧ wy.ownsRow w.heap.size 42 1 s6 (p + 1 + i) ((acc ++ List.replicate i (a : Int)).map (Value.int .u64)) ∧ Only (fun _ => False) w wy)
              case atStart => exact ⟨0, by omega, rfl, by simpa using OWN3.out, O3.out⟩
              case round =>
                obtain ⟨i, hib, rfl, hown, hon⟩ := hrel
                have HX := hideIt hon
                have hsz : w.heap.size ≤ wr.heap.size := hon.size
                clear OWN3 hon
                cases gk with
                | zero =>
                  obtain rfl : i = b + 1 := by omega
                  have F : Hid (wr.ownsRow w.heap.size 42 1 u6 (acc ++ List.replicate (b + 1) (a : Int)).length ((acc ++ List.replicate (b + 1) (a : Int)).map (Value.int .u64))) := by
                    simp only [Hid]
                    rw [List.length_append, List.length_replicate, ← HM.out]; exact hown
                  have HLN : Hid ((acc ++ List.replicate (b + 1) (a : Int)).length + (G - (b + 1)) = n) := by
                    simp only [Hid]
                    rw [List.length_append, List.length_replicate, ← HM.out]; omega
                  have d5 : decide (((b : Int) + 1) ≤ (b : Int)) = false := decide_eq_false (by omega)
                  have d6 : decide (b + 1 ≤ b) = false := decide_eq_false (by omega)
                  clear hown
                  go_wp2
                  go_roundg (G - (b + 1))
                  case rel => exact ⟨f - 1, _, _, F.out, HB3.out, NC3.out, (fun y hy => HR2.out y (List.mem_of_mem_drop hy)), HLN.out, (by have := HF.out; simp only [Hid]; omega), HR.out.symm, HX.out⟩
                  case measure => omega
                | succ g =>
                  have d5 : decide ((i : Int) ≤ (b : Int)) = true := decide_eq_true (by omega)
                  have d6 : decide (i ≤ b) = true := decide_eq_true (by omega)
                  go_wp2_with (at_builtin; refine wpList_append_lies _ rfl _ _ _ rfl w.heap.size 42 i0 (.int .u64 0) 1 8 Tryz.underlying39 hi hz0 hz1 hz2 rfl (by omega) _ (p + 1 + i) _ rfl (hown.alloc _) ⟨wr.heap.size, 0, none⟩ 1 1 [.int .u64 (a : Int)] rfl rfl ?c1 ?c2 (by omega) ?c3 ?c4 ?c5 (wr.heap.size + 1) (by simp) ?_)
                  case c1 => exact cell_one_new _ _ _
                  case c2 => intro u hu; simp at hu; subst hu; rfl
                  case c3 => unfold maxLen; omega
                  case c4 => omega
                  case c5 => simp; omega
                  intro gg cap1 w4 hown1 hgrow hat hg1
                  have o3 := hideIt ((HX.out.alloc _).grown hgrow (fun p hp hq => by have := (hown.lt p hq).1; omega))
                  have own3 : Hid (w4.ownsRow w.heap.size 42 1 (.slice (some ⟨gg, 0, none⟩) (p + 1 + i + 1) cap1) (p + 1 + (i + 1)) ((acc ++ List.replicate (i + 1) (a : Int)).map (Value.int .u64))) := by
                    simp only [Hid]
                    rw [rep_snoc, ← Nat.add_assoc]; simpa using hown1
                  clear hown hown1 hgrow hat HX
                  go_wp2
                  go_roundg g
                  case rel => exact ⟨i + 1, by omega, by go_num, own3.out, o3.out⟩
                  case measure => omega
end Go.Proofs.YtgbimghhdbmjiaaGreat
