/- Several texts in one: Ir2, SameI, Aw8. -/
import Derived.Test.YtgbimghhdbmjiaaGreatG12
import Derived.Test.YtgbimghhdbmjiaaGreatProg
import Derived.Test.YtgbimghhdbmjiaaGreatG1
import Derived.Test.YtgbimghhdbmjiaaGreatG8

/- Package intcodec: reading a way; Decode. -/
namespace Go.Proofs.YtgbimghhdbmjiaaGreat
open Go.RowKit

set_option maxHeartbeats 400000 in
set_option maxRecDepth 100000 in
theorem oth_two {w : World} {R : Nat} {v : Value} {ys : List Int} (h : CurAt 51 w R v ys) (m : Nat) :
    Calls Tryz.prog 25 #[.pointer (some ⟨R, 0, none⟩), .int .i64 m, .int .i64 2] w fun e w' => ∃ u, e = .returned (.tuple #[u, .int .i64 (OTH ys m 2).2]) ∧ w'.ownsRow w.heap.size 42 1 u (OTH ys m 2).1.length ((OTH ys m 2).1.map (Value.int .u64)) ∧ Only (fun k => k = R) w w' := by
  have RC := hideIt (rest_cur h)
  have HRG := hideIt h.rng
  have HL := hideIt h.len
  clear h
  go_enter Tryz.func25, Tryz.ntmps25
  go_wp2_with fail
  refine RC.out.mono ?_
  rintro e w1 ⟨u, rfl, bs, o1⟩
  have B := hideIt (unpack_bs u ys m w1 bs HRG.out HL.out)
  have O1 := hideIt o1
  obtain ⟨f1, c1, e1⟩ := bs.len
  subst e1
  clear RC bs o1
  go_wp2_with fail
  refine B.out.mono ?_
  rintro e w2 ⟨u2, rfl, own2, o2⟩
  have F := hideIt (And.intro (own_low own2 O1.out.size) (O1.out.trans o2 (fun _ _ f => f.elim)))
  obtain ⟨f2, c2, e2⟩ := (Bs.of_own own2).len
  subst e2
  clear B own2 o2
  go_wp2
  try rw [Exit.noGoto_ret]
  go_ret2
  exact ⟨_, rfl, F.out.1, F.out.2⟩
set_option maxHeartbeats 400000 in
set_option maxRecDepth 100000 in
theorem oth_three {w : World} {R : Nat} {v : Value} {ys : List Int} (h : CurAt 51 w R v ys) (m : Nat) :
    Calls Tryz.prog 25 #[.pointer (some ⟨R, 0, none⟩), .int .i64 m, .int .i64 3] w fun e w' => ∃ u, e = .returned (.tuple #[u, .int .i64 (OTH ys m 3).2]) ∧ w'.ownsRow w.heap.size 42 1 u (OTH ys m 3).1.length ((OTH ys m 3).1.map (Value.int .u64)) ∧ Only (fun k => k = R) w w' := by
  have RC := hideIt (rest_cur h)
  have HRG := hideIt h.rng
  have HL := hideIt h.len
  clear h
  go_enter Tryz.func25, Tryz.ntmps25
  go_wp2_with fail
  refine RC.out.mono ?_
  rintro e w1 ⟨u, rfl, bs, o1⟩
  have B := hideIt (decode_all u ys m w1 bs HRG.out HL.out)
  have O1 := hideIt o1
  obtain ⟨f1, c1, e1⟩ := bs.len
  subst e1
  clear RC bs o1
  go_wp2_with fail
  refine B.out.mono ?_
  rintro e w2 ⟨u2, rfl, own2, o2⟩
  have F := hideIt (And.intro (own_low own2 O1.out.size) (O1.out.trans o2 (fun _ _ f => f.elim)))
  obtain ⟨f2, c2, e2⟩ := (Bs.of_own own2).len
  subst e2
  clear B own2 o2
  go_wp2
  try rw [Exit.noGoto_ret]
  go_ret2
  exact ⟨_, rfl, F.out.1, F.out.2⟩
set_option maxHeartbeats 400000 in
set_option maxRecDepth 100000 in
theorem oth_four {w : World} {R : Nat} {v : Value} {ys : List Int} (h : CurAt 51 w R v ys) (m : Nat) :
    Calls Tryz.prog 25 #[.pointer (some ⟨R, 0, none⟩), .int .i64 m, .int .i64 4] w fun e w' => ∃ u, e = .returned (.tuple #[u, .int .i64 (OTH ys m 4).2]) ∧ w'.ownsRow w.heap.size 42 1 u (OTH ys m 4).1.length ((OTH ys m 4).1.map (Value.int .u64)) ∧ Only (fun k => k = R) w w' := by
  have RC := hideIt (rest_cur h)
  have HRG := hideIt h.rng
  have HL := hideIt h.len
  clear h
  go_enter Tryz.func25, Tryz.ntmps25
  go_wp2_with fail
  refine RC.out.mono ?_
  rintro e w1 ⟨u, rfl, bs, o1⟩
  have B := hideIt (run_decode_all u ys m w1 bs HRG.out HL.out)
  have O1 := hideIt o1
  obtain ⟨f1, c1, e1⟩ := bs.len
  subst e1
  clear RC bs o1
  go_wp2_with fail
  refine B.out.mono ?_
  rintro e w2 ⟨u2, rfl, own2, o2⟩
  have F := hideIt (And.intro (own_low own2 O1.out.size) (O1.out.trans o2 (fun _ _ f => f.elim)))
  obtain ⟨f2, c2, e2⟩ := (Bs.of_own own2).len
  subst e2
  clear B own2 o2
  go_wp2
  try rw [Exit.noGoto_ret]
  go_ret2
  exact ⟨_, rfl, F.out.1, F.out.2⟩
set_option maxHeartbeats 400000 in
set_option maxRecDepth 100000 in
theorem oth_one {w : World} {R : Nat} {v : Value} {ys : List Int} (h : CurAt 51 w R v ys) (hvb : ∀ k, v.ownBlock = some k → k < w.heap.size) (m : Nat) (hm : m ≤ 65536) :
    Calls Tryz.prog 25 #[.pointer (some ⟨R, 0, none⟩), .int .i64 m, .int .i64 1] w fun e w' => ∃ u, e = .returned (.tuple #[u, .int .i64 (rVs m [] ys).2.2]) ∧ w'.ownsRow w.heap.size 42 1 u (rVs m [] ys).1.length ((rVs m [] ys).1.map (Value.int .u64)) ∧ Only (fun k => k = R) w w' := by
  have B := hideIt (readVarints_cur h hvb m hm)
  clear h hvb hm
  go_enter Tryz.func25, Tryz.ntmps25
  go_wp2_with fail
  refine B.out.mono ?_
  rintro e w2 ⟨u2, rfl, own2, o2⟩
  have F := hideIt (And.intro own2 o2)
  obtain ⟨f2, c2, e2⟩ := (Bs.of_own own2).len
  subst e2
  clear B own2 o2
  go_wp2
  try rw [Exit.noGoto_ret]
  go_ret2
  exact ⟨_, rfl, F.out.1, F.out.2⟩
theorem oth_any {w : World} {R : Nat} {v : Value} {ys : List Int} (h : CurAt 51 w R v ys) (hvb : ∀ k, v.ownBlock = some k → k < w.heap.size) (m t : Nat) (hm : m ≤ 65536) (h1 : 1 ≤ t) (h4 : t ≤ 4) :
    Calls Tryz.prog 25 #[.pointer (some ⟨R, 0, none⟩), .int .i64 m, .int .i64 t] w fun e w' => ∃ u, e = .returned (.tuple #[u, .int .i64 (OTH ys m t).2]) ∧ w'.ownsRow w.heap.size 42 1 u (OTH ys m t).1.length ((OTH ys m t).1.map (Value.int .u64)) ∧ Only (fun k => k = R) w w' := by
  rcases t with _ | _ | _ | _ | _ | t
  · omega
  · exact oth_one h hvb m hm
  · exact oth_two h m
  · exact oth_three h m
  · exact oth_four h m
  · omega

set_option maxHeartbeats 400000 in
set_option maxRecDepth 100000 in
theorem read_nil (R t : Nat) (w : World) :
    Calls Tryz.prog 13 #[.pointer (some ⟨R, 0, none⟩), .int .i64 0, .int .i64 t] w fun e w' => e = .returned (.tuple #[.slice none 0 0, .int .i64 0]) ∧ w = w' := by
  go_enter Tryz.func13, Tryz.ntmps13
  go_wp2
  try rw [Exit.noGoto_ret]
  go_ret2
  exact ⟨rfl, rfl⟩
set_option maxHeartbeats 400000 in
set_option maxRecDepth 100000 in
theorem read_zero {w : World} {R : Nat} {v : Value} {ys : List Int} (h : CurAt 51 w R v ys) (hvb : ∀ k, v.ownBlock = some k → k < w.heap.size) (n : Nat) (hn : n ≤ 65536) (hp : 0 < n) :
    Calls Tryz.prog 13 #[.pointer (some ⟨R, 0, none⟩), .int .i64 n, .int .i64 0] w fun e w' => ∃ u, e = .returned (.tuple #[u, .int .i64 (rFx ys n).2]) ∧ w'.ownsRow w.heap.size 3 1 u ((rFx ys n).1.map s64).length (((rFx ys n).1.map s64).map (Value.int .i64)) ∧ Only (fun k => k = R) w w' := by
  have B := hideIt (readFixed_cur h hvb n hn)
  have d0 : ((n : Int) == 0) = false := by rw [beq_eq_false_iff_ne]; omega
  generalize (rFx ys n).1.map s64 = z at *
  clear h hvb hn hp
  go_enter Tryz.func13, Tryz.ntmps13
  go_wp2_with fail
  refine B.out.mono ?_
  rintro e w2 ⟨u2, rfl, own2, o2⟩
  have F := hideIt (And.intro own2 o2)
  obtain ⟨f2, c2, e2⟩ := (Bs.of_own own2).len
  subst e2
  clear B own2 o2
  go_wp2
  try rw [Exit.noGoto_ret]
  go_ret2
  exact ⟨_, rfl, F.out.1, F.out.2⟩

set_option maxHeartbeats 1600000 in
set_option maxRecDepth 100000 in
/-- A WAY of the other four IS READ. -/
theorem read_other {w : World} {R : Nat} {v : Value} {ys : List Int} (h : CurAt 51 w R v ys) (hvb : ∀ k, v.ownBlock = some k → k < w.heap.size) (m t : Nat) (hm : m < 65536) (h1 : 1 ≤ t) (h4 : t ≤ 4) :
    Calls Tryz.prog 13 #[.pointer (some ⟨R, 0, none⟩), .int .i64 (m + 1 : Nat), .int .i64 t] w fun e w' => ∃ u, e = .returned (.tuple #[u, .int .i64 (READ ys (m + 1) t).2]) ∧ w'.ownsRow w.heap.size 3 1 u (READ ys (m + 1) t).1.length ((READ ys (m + 1) t).1.map (Value.int .i64)) ∧ Only (fun k => k = R) w w' := by
  have hR : R < w.heap.size := (Array.getElem?_eq_some_iff.1 h.cell).1
  have V := varint_cur h
  have d0 : (((m + 1 : Nat) : Int) == 0) = false := by rw [beq_eq_false_iff_ne]; omega
  have d1 : ((t : Int) == 0) = false := by rw [beq_eq_false_iff_ne]; omega
  have em : ((m + 1 : Nat) : Int) - 1 = (m : Int) := by omega
  have HVB := hideIt hvb
  have hRD : READ ys (m + 1) t = if (sVarint ys).2.2 ≠ 0 then ([], (sVarint ys).2.2) else
      if (OTH (ys.drop (sVarint ys).2.1) m t).2 ≠ 0 then ([], (OTH (ys.drop (sVarint ys).2.1) m t).2) else
      (S (tms t) (zag (sVarint ys).1 :: zgn (OTH (ys.drop (sVarint ys).2.1) m t).1), 0) := by
    unfold READ
    rw [if_neg (by omega), if_neg (by omega), Nat.add_sub_cancel]
  rcases sVarint_cases h.rng with ⟨c, hs, hc⟩ | ⟨a, q, hs, _, _, ha, _⟩
  · rw [hs] at V hRD
    simp only at hRD
    rw [if_pos (by omega)] at hRD
    rw [hRD]
    have V := hideIt V
    have dc : (c != 0) = true := by simp; omega
    clear h hvb hs hRD hc
    go_enter Tryz.func13, Tryz.ntmps13
    go_wp2_with fail
    refine V.out.mono ?_
    rintro e w2 ⟨rfl, v2, _, _, o2⟩
    have O2 := hideIt o2
    clear V o2
    go_wp2
    try rw [Exit.noGoto_ret]
    go_ret2
    exact ⟨_, rfl, World.ownsRow_nil _ _ _ _, O2.out⟩
  · rw [hs] at V hRD
    simp only [ne_eq, not_true_eq_false, if_false] at hRD
    have V := hideIt V
    have HYB : Hid (Byt (ys.drop q)) := fun y hy => h.rng y (List.mem_of_mem_drop hy)
    have HOT : Hid (∀ (v2 : Value) (w2 : World), CurAt 51 w2 R v2 (ys.drop q) → v2.ownBlock = v.ownBlock → w.heap.size ≤ w2.heap.size → Calls Tryz.prog 25 #[.pointer (some ⟨R, 0, none⟩), .int .i64 m, .int .i64 t] w2 fun e w' => ∃ u, e = .returned (.tuple #[u, .int .i64 (OTH (ys.drop q) m t).2]) ∧ w'.ownsRow w2.heap.size 42 1 u (OTH (ys.drop q) m t).1.length ((OTH (ys.drop q) m t).1.map (Value.int .u64)) ∧ Only (fun k => k = R) w2 w') :=
      fun v2 w2 hc ho hz => oth_any hc (fun k hk => by rw [ho] at hk; have := hvb k hk; omega) m t (by omega) h1 h4
    have HTM : Hid (∀ w2, Calls Tryz.prog 28 #[.int .i64 t] w2 fun e w' => e = .returned (.int .i64 (tms t)) ∧ w2 = w') := fun w2 => times_any t w2 h1 h4
    have HT3 := hideIt (tms_le t)
    by_cases ho : (OTH (ys.drop q) m t).2 = 0
    · have HON := hideIt (OTH_only HYB.out ho)
      rw [if_neg (by simpa using ho)] at hRD
      rw [hRD]
      simp only [S_length, List.length_cons, zgn_length, HON.out.2]
      generalize hW : OTH (ys.drop q) m t = W at *
      obtain ⟨o, c⟩ := W
      simp only at ho HON HOT ⊢
      subst ho
      clear h hvb hs hRD hW
      generalize tms t = k at *
      have ha1 : (a : Int) ≤ 18446744073709551615 := by omega
      obtain ⟨zz, hzz⟩ : ∃ zz, zz = zag a :: zgn o := ⟨_, rfl⟩
      rw [← hzz]
      have HZZ := hideIt hzz
      clear hzz
      go_enter Tryz.func13, Tryz.ntmps13
      go_wp2_with fail
      refine V.out.mono ?_
      rintro e w2 ⟨rfl, v2, cur2, ob2, o2⟩
      have OC := hideIt (HOT.out v2 w2 cur2 ob2 o2.size)
      have O2 := hideIt o2
      clear V o2 HOT cur2 ob2
      go_wp2_with fail
      refine OC.out.mono ?_
      rintro e w3 ⟨u3, rfl, own3, o3⟩
      have O3 := hideIt (O2.out.trans o3 (fun _ _ e => e))
      have ZG := hideIt (zags_any a u3 o w3 (Bs.of_own own3) HON.out.1 (by rw [HON.out.2]; omega) (by omega) ha1)
      obtain ⟨f3, c3, e3⟩ := (Bs.of_own own3).len
      rw [HON.out.2] at e3 ZG
      subst e3
      clear OC own3 o3 O2
      go_wp2_with fail
      refine ZG.out.mono ?_
      rintro e w4 ⟨u4, rfl, own4, o4⟩
      have hzl : zz.length = m + 1 := by rw [HZZ.out, List.length_cons, zgn_length, HON.out.2]
      have hbz : Bs .i64 w4 u4 zz := Bs.of_own (by rw [hzl, HZZ.out]; exact own4)
      have SU := hideIt (sum_in u4 zz k w4 hbz (by rw [hzl]; omega) HT3.out)
      have O4 := hideIt (O3.out.trans o4 (fun _ _ f => f.elim))
      obtain ⟨f4, c4, e4⟩ := hbz.len
      rw [hzl] at e4 SU
      subst e4
      clear ZG own4 o4 O3 hbz hzl
      go_wp2_with fail
      refine (HTM.out w4).mono ?_
      rintro e w5 ⟨rfl, rfl⟩
      clear HTM
      go_wp2_with fail
      refine SU.out.mono ?_
      rintro e w6 ⟨u6, rfl, own6, o6⟩
      have F := hideIt (And.intro (own_low own6 O4.out.size) (O4.out.trans o6 (fun _ _ f => f.elim)))
      clear SU o6
      obtain ⟨f6, c6, e6, _, _⟩ := own6.form (by omega)
      subst e6
      clear own6
      go_wp2
      try rw [Exit.noGoto_ret]
      go_ret2
      exact ⟨_, rfl, F.out.1, F.out.2⟩
    · rw [if_pos ho] at hRD
      rw [hRD]
      have HE := hideIt (OTH_err HYB.out ho)
      generalize hW : OTH (ys.drop q) m t = W at *
      obtain ⟨o, c⟩ := W
      simp only at ho HE HOT ⊢
      have dc : (c != 0) = true := by simp; exact ho
      clear h hvb hs hRD hW
      go_enter Tryz.func13, Tryz.ntmps13
      go_wp2_with fail
      refine V.out.mono ?_
      rintro e w2 ⟨rfl, v2, cur2, ob2, o2⟩
      have OC := hideIt (HOT.out v2 w2 cur2 ob2 o2.size)
      have O2 := hideIt o2
      clear V o2 HOT cur2 ob2
      go_wp2_with fail
      refine OC.out.mono ?_
      rintro e w3 ⟨u3, rfl, own3, o3⟩
      have O3 := hideIt (O2.out.trans o3 (fun _ _ e => e))
      obtain ⟨f3, c3, e3⟩ := (Bs.of_own own3).len
      subst e3
      clear OC own3 o3 O2
      go_wp2
      try rw [Exit.noGoto_ret]
      go_ret2
      exact ⟨_, rfl, World.ownsRow_nil _ _ _ _, O3.out⟩
theorem read_any {w : World} {R : Nat} {v : Value} {ys : List Int} (h : CurAt 51 w R v ys) (hvb : ∀ k, v.ownBlock = some k → k < w.heap.size) (n t : Nat) (hn : n ≤ 65536) (h4 : t ≤ 4) :
    Calls Tryz.prog 13 #[.pointer (some ⟨R, 0, none⟩), .int .i64 n, .int .i64 t] w fun e w' => ∃ u, e = .returned (.tuple #[u, .int .i64 (READ ys n t).2]) ∧ w'.ownsRow w.heap.size 3 1 u (READ ys n t).1.length ((READ ys n t).1.map (Value.int .i64)) ∧ Only (fun k => k = R) w w' := by
  by_cases h0 : n = 0
  · subst h0
    refine (read_nil R t w).mono ?_
    rintro e w' ⟨rfl, rfl⟩
    exact ⟨_, rfl, World.ownsRow_nil _ _ _ _, Only.refl _ _⟩
  · by_cases ht : t = 0
    · subst ht
      have e : READ ys n 0 = ((rFx ys n).1.map s64, (rFx ys n).2) := by
        unfold READ
        rw [if_neg h0, if_pos rfl]
      rw [e]
      exact read_zero h hvb n hn (by omega)
    · obtain ⟨m, rfl⟩ : ∃ m, n = m + 1 := ⟨n - 1, by omega⟩
      exact read_other h hvb m t (by omega) (by omega) h4

set_option maxHeartbeats 400000 in
set_option maxRecDepth 100000 in
theorem decode8_arg (v : Value) (n : Int) (w : World) (h : n < 0 ∨ 65536 < n) :
    Calls Tryz.prog 5 #[v, .int .i64 n] w fun e w' => e = .returned (.tuple #[.slice none 0 0, .int .i64 1]) ∧ w = w' := by
  by_cases h0 : n < 0
  · have d0 : decide (n < 0) = true := decide_eq_true h0
    clear h h0
    go_enter Tryz.func5, Tryz.ntmps5
    go_wp2
    try rw [Exit.noGoto_ret]
    go_ret2
    exact ⟨rfl, rfl⟩
  · have d0 : decide (n < 0) = false := decide_eq_false h0
    have d1 : decide (65536 < n) = true := decide_eq_true (by omega)
    clear h h0
    go_enter Tryz.func5, Tryz.ntmps5
    go_wp2
    try rw [Exit.noGoto_ret]
    go_ret2
    exact ⟨rfl, rfl⟩
theorem sByte_nil : sByte [] = (0, 0, 2) := rfl
theorem sByte_at (y : Int) (r : List Int) : sByte (y :: r) = (y, 1, 0) := by simp [sByte]
set_option maxHeartbeats 800000 in
set_option maxRecDepth 100000 in
/-- THE INTS OF BYTES. -/
theorem decode8_bs (v : Value) (ys : List Int) (n : Nat) (w : World) (h : Bs .u8 w v ys) (hr : Byt ys) (hl : ys.length ≤ 1000000000000) (hn : n ≤ 65536) :
    Calls Tryz.prog 5 #[v, .int .i64 n] w fun e w' => ∃ u, e = .returned (.tuple #[u, .int .i64 (DEC8 ys n).2]) ∧ w'.ownsRow w.heap.size 3 1 u (DEC8 ys n).1.length ((DEC8 ys n).1.map (Value.int .i64)) ∧ Only (fun _ => False) w w' := by
  have NW := hideIt (new_bs v ys w h hr hl)
  have HB := hideIt h
  have d0 : decide ((n : Int) < 0) = false := by simp
  have d1 : decide ((65536 : Int) < (n : Int)) = false := decide_eq_false (by omega)
  have eD : DEC8 ys n = if ys = [] then ([], 2) else if 4 < ys.getD 0 0 then ([], 3) else
      if (READ (ys.drop 1) n (ys.getD 0 0).toNat).2 ≠ 0 then ([], (READ (ys.drop 1) n (ys.getD 0 0).toNat).2) else
      if (ENC8 (READ (ys.drop 1) n (ys.getD 0 0).toNat).1).1 = ys then ((READ (ys.drop 1) n (ys.getD 0 0).toNat).1, 0) else ([], 3) := by
    unfold DEC8
    rw [if_neg (by omega)]
    rfl
  have HRG := hideIt hr
  obtain ⟨ao, cap, rfl⟩ := h.len
  clear h hl
  cases ys with
  | nil =>
    rw [eD, if_pos rfl]
    clear eD hr
    go_enter Tryz.func5, Tryz.ntmps5
    go_wp2_with fail
    refine NW.out.mono ?_
    rintro e w1 ⟨R, v1, rfl, cur1, o1, hR0, hR1, hV1⟩
    have BY := byte_cur cur1
    rw [sByte_nil] at BY
    have BY := hideIt BY
    have O1 := hideIt o1
    clear NW cur1 o1 hV1
    go_wp2_with fail
    refine BY.out.mono ?_
    rintro e w2 ⟨rfl, v2, _, _, o2⟩
    have O2 := hideIt (O1.out.trans o2 (fun k hk e => by omega))
    clear BY o2
    go_wp2
    try rw [Exit.noGoto_ret]
    go_ret2
    exact ⟨_, rfl, World.ownsRow_nil _ _ _ _, O2.out⟩
  | cons y r =>
    have hy := hr y List.mem_cons_self
    rw [if_neg (by simp), List.getD_cons_zero, List.drop_succ_cons, List.drop_zero] at eD
    obtain ⟨t, rfl⟩ : ∃ t : Nat, y = t := ⟨y.toNat, by omega⟩
    rw [Int.toNat_natCast] at eD
    have t255 : (t : Int) ≤ 255 := hy.2
    by_cases ht : 4 < t
    · rw [if_pos (by omega)] at eD
      rw [eD]
      have IT := hideIt (fun w2 => istag_no (t : Int) w2 (.inr (by omega)))
      obtain ⟨N, hN⟩ : ∃ N, N = ((t : Int) :: r).length := ⟨_, rfl⟩
      rw [← hN] at NW HB ⊢
      clear eD hr hy hN
      go_enter Tryz.func5, Tryz.ntmps5
      go_wp2_with fail
      refine NW.out.mono ?_
      rintro e w1 ⟨R, v1, rfl, cur1, o1, hR0, hR1, hV1⟩
      have BY := byte_cur cur1
      rw [sByte_at] at BY
      have BY := hideIt BY
      have O1 := hideIt o1
      clear NW cur1 o1 hV1
      go_wp2_with fail
      refine BY.out.mono ?_
      rintro e w2 ⟨rfl, v2, _, _, o2⟩
      have O2 := hideIt (O1.out.trans o2 (fun k hk e => by omega))
      clear BY o2
      go_wp2_with fail
      refine (IT.out w2).mono ?_
      rintro e w3 ⟨rfl, rfl⟩
      clear IT
      go_wp2
      try rw [Exit.noGoto_ret]
      go_ret2
      exact ⟨_, rfl, World.ownsRow_nil _ _ _ _, O2.out⟩
    · rw [if_neg (by omega)] at eD
      have IT := hideIt (fun w2 => istag_yes (t : Int) w2 (by omega) (by omega))
      have RD : Hid (∀ (R : Nat) (v2 : Value) (w2 : World), CurAt 51 w2 R v2 r → (∀ k, v2.ownBlock = some k → k < w2.heap.size) → Calls Tryz.prog 13 #[.pointer (some ⟨R, 0, none⟩), .int .i64 n, .int .i64 t] w2 fun e w' => ∃ u, e = .returned (.tuple #[u, .int .i64 (READ r n t).2]) ∧ w'.ownsRow w2.heap.size 3 1 u (READ r n t).1.length ((READ r n t).1.map (Value.int .i64)) ∧ Only (fun k => k = R) w2 w') :=
        fun R v2 w2 hc hv => read_any hc hv n t hn (by omega)
      have HOK : Hid ((READ r n t).2 = 0 → I64s (READ r n t).1 ∧ (READ r n t).1.length = n) := fun h0 => READ_ok (fun z hz => hr z (List.mem_cons_of_mem _ hz)) h0
      have HER : Hid ((READ r n t).2 ≠ 0 → (READ r n t).1 = []) := fun h0 => READ_err h0
      obtain ⟨zs, hzs⟩ : ∃ zs, zs = ((t : Int) :: r) := ⟨_, rfl⟩
      obtain ⟨N, hN⟩ : ∃ N, N = ((t : Int) :: r).length := ⟨_, rfl⟩
      rw [← hzs] at eD HRG
      rw [← hN] at NW HB ⊢
      have HN : Hid (N = zs.length) := by simp only [Hid]; rw [hzs]; exact hN
      have NW2 : Hid (Calls Tryz.prog 10 #[Value.slice ao N cap] w fun e w' => ∃ R v', e = .returned (.pointer (some ⟨R, 0, none⟩)) ∧ CurAt 51 w' R v' ((t : Int) :: r) ∧ Only (fun _ => False) w w' ∧ w.heap.size ≤ R ∧ R < w'.heap.size ∧ (∀ k, v'.ownBlock = some k → w.heap.size ≤ k ∧ k < w'.heap.size)) := NW
      have HBZ : Hid (Bs .u8 w (.slice ao N cap) zs) := by simp only [Hid]; rw [hzs]; exact HB.out
      rw [← hzs]
      generalize DEC8 zs n = DD at *
      generalize READ r n t = RR at *
      obtain ⟨l, c⟩ := RR
      simp only at RD HOK HER eD
      clear hr hy hN hzs NW HB
      go_enter Tryz.func5, Tryz.ntmps5
      go_wp2_with fail
      refine NW2.out.mono ?_
      rintro e w1 ⟨R, v1, rfl, cur1, o1, hR0, hR1, hV1⟩
      have BY := byte_cur cur1
      rw [sByte_at] at BY
      have BY := hideIt BY
      have O1 := hideIt o1
      have HV1 := hideIt hV1
      clear NW2 cur1 o1 hV1
      go_wp2_with fail
      refine BY.out.mono ?_
      rintro e w2 ⟨rfl, v2, cur2, ob2, o2⟩
      have O2 := hideIt (O1.out.trans o2 (fun k hk e => by omega))
      have RA := hideIt (RD.out R v2 w2 cur2 (fun k hk => by rw [ob2] at hk; have := (HV1.out k hk).2; have := o2.size; omega))
      clear BY o2 cur2 ob2 RD
      go_wp2_with fail
      refine (IT.out w2).mono ?_
      rintro e w3 ⟨rfl, rfl⟩
      clear IT
      go_wp2_with fail
      refine RA.out.mono ?_
      rintro e w3 ⟨u3, rfl, own3, o3⟩
      have O3 := hideIt (O2.out.trans o3 (fun k hk e => by omega))
      have OWN3 := hideIt (own_low own3 O2.out.size)
      obtain ⟨f3, c3, e3⟩ := (Bs.of_own own3).len
      subst e3
      clear RA own3 o3
      by_cases hc : c = 0
      · subst hc
        obtain ⟨hg, hlen⟩ := HOK.out rfl
        rw [if_neg (by simp)] at eD
        have EN := encode8_all _ l w3 (Bs.of_own OWN3.out) hg
        have HEB := hideIt (ENC8_byt hg)
        have EN := hideIt EN
        obtain ⟨m, hm⟩ : ∃ m, m = l.length := ⟨_, rfl⟩
        rw [← hm] at EN OWN3 ⊢
        have HM := hideIt hm
        generalize ENC8 l = E at *
        obtain ⟨E1, Ec⟩ := E
        simp only at EN HEB eD
        have HED := hideIt eD
        clear hg hlen HOK HER eD hm
        go_wp2_with fail
        refine EN.out.mono ?_
        rintro e w4 ⟨u4, rfl, own4, o4⟩
        have O4 := hideIt (O3.out.same o4)
        have OWN4 := hideIt (o4.own OWN3.out (fun _ _ f => f))
        have EQ := hideIt (equal_bs u4 (.slice ao N cap) E1 zs w4 (Bs.of_own own4) (HBZ.out.past O4.out) HEB.out HRG.out)
        obtain ⟨f4, c4, e4⟩ := (Bs.of_own own4).len
        subst e4
        clear EN own4 o4
        by_cases heq : E1 = zs
        · have de : decide (E1 = zs) = true := decide_eq_true heq
          rw [de] at EQ
          rw [if_pos heq] at HED
          have eE := HED.out
          subst eE
          clear heq de HED
          generalize E1.length = e1 at *
          go_wp2_with fail
          refine EQ.out.mono ?_
          rintro e w5 ⟨rfl, rfl⟩
          clear EQ
          go_wp2
          try rw [Exit.noGoto_ret]
          go_ret2
          refine ⟨_, rfl, ?_, O4.out⟩
          simp only [← HM.out]
          exact OWN4.out
        · have de : decide (E1 = zs) = false := decide_eq_false heq
          rw [de] at EQ
          rw [if_neg heq] at HED
          have eE := HED.out
          subst eE
          clear heq de HED
          generalize E1.length = e1 at *
          go_wp2_with fail
          refine EQ.out.mono ?_
          rintro e w5 ⟨rfl, rfl⟩
          clear EQ
          go_wp2
          try rw [Exit.noGoto_ret]
          go_ret2
          exact ⟨_, rfl, World.ownsRow_nil _ _ _ _, O4.out⟩
      · have dc : (c != 0) = true := by simp; exact hc
        rw [if_pos hc] at eD
        subst eD
        clear HOK HER OWN3
        generalize l.length = m at *
        go_wp2
        try rw [Exit.noGoto_ret]
        go_ret2
        exact ⟨_, rfl, World.ownsRow_nil _ _ _ _, O3.out⟩
theorem decode8_all (v : Value) (ys : List Int) (n : Int) (w : World) (h : Bs .u8 w v ys) (hr : Byt ys) (hl : ys.length ≤ 1000000000000) :
    Calls Tryz.prog 5 #[v, .int .i64 n] w fun e w' => ∃ u, e = .returned (.tuple #[u, .int .i64 (DEC8 ys n).2]) ∧ w'.ownsRow w.heap.size 3 1 u (DEC8 ys n).1.length ((DEC8 ys n).1.map (Value.int .i64)) ∧ Only (fun _ => False) w w' := by
  by_cases hn : n < 0 ∨ 65536 < n
  · have e : DEC8 ys n = ([], 1) := by unfold DEC8; rw [if_pos hn]
    rw [e]
    refine (decode8_arg v n w hn).mono ?_
    rintro e w' ⟨rfl, rfl⟩
    exact ⟨_, rfl, World.ownsRow_nil _ _ _ _, Only.refl _ _⟩
  · obtain ⟨m, rfl⟩ := Int.eq_ofNat_of_zero_le (show 0 ≤ n by omega)
    exact decode8_bs v ys m w h hr hl (by omega)
end Go.Proofs.YtgbimghhdbmjiaaGreat

/- Contract of the reference's Same: equal ints are the same. -/
namespace Go.Proofs.YtgbimghhdbmjiaaGreat
open Go.RowKit

set_option maxHeartbeats 400000 in
set_option maxRecDepth 100000 in
/-- EQUAL INTS ARE THE SAME: nothing is written. -/
theorem isame_q (va vb : Value) (xs : List Int) (w : World) (ha : Bs .i64 w va xs) (hb : Bs .i64 w vb xs) (hl : xs.length ≤ 140737488355328) :
    Calls Tryz.prog 7 #[va, vb] w fun e w' => e = .returned (.bool true) ∧ ∃ m, w' = w.drewN m := by
  obtain ⟨aoa, ca, rfl, hca, hra⟩ := ha
  obtain ⟨aob, cb, rfl, hcb, hrb⟩ := hb
  have hbn : ((xs.length : Int) != (xs.length : Int)) = false := by simp
  by_cases hx : xs = []
  · subst hx
    clear hra hrb
    simp only [List.length_nil]
    go_enter Tryz.func7, Tryz.ntmps7
    go_wp2
    go_loop [5] (fun i => i = .int .i64 0) (fun _ => 0)
    case atStart => rfl
    case round =>
      subst hrel
      go_wp2
      go_ret
      exact ⟨rfl, 0, rfl⟩
  · obtain ⟨ba, oa, rfl, hcella⟩ := hra hx
    obtain ⟨bb, ob, rfl, hcellb⟩ := hrb hx
    clear hra hrb hx
    obtain ⟨n, hn⟩ : ∃ n, n = xs.length := ⟨_, rfl⟩
    rw [← hn] at hbn hca hcb hcella hcellb hl ⊢
    have HA : Hid (∀ j, j < n → w.cell? ⟨ba, oa + j, none⟩ = some (.int .i64 (xs.getD j 0))) := hcella
    have HB : Hid (∀ j, j < n → w.cell? ⟨bb, ob + j, none⟩ = some (.int .i64 (xs.getD j 0))) := hcellb
    clear hcella hcellb hn
    go_enter Tryz.func7, Tryz.ntmps7
    go_wp2
    go_loopw [5] (fun i wr => ∃ k : Nat, k ≤ n ∧ i = .int .i64 k ∧ ∃ m, wr = w.drewN m) (fun i _ => n - (intOf i).toNat)
    case atStart => exact ⟨0, Nat.zero_le _, rfl, 0, rfl⟩
    case round =>
      obtain ⟨k, hk, rfl, md, hmd⟩ := hrel
      have hon : Only (fun _ => False) w wr := by rw [hmd]; exact (Only.refl _ _).drewN md
      have HMD := hideIt hmd
      clear hmd
      by_cases hlt : k < n
      · obtain ⟨y, hy⟩ : ∃ y, y = xs.getD k 0 := ⟨_, rfl⟩
        have h1 : wr.cell? ⟨ba, oa + k, none⟩ = some (.int .i64 y) := by
          have := HA.out k hlt
          rw [World.cell?_of_block (hon.block ba (World.block_lt_of_cell? w _ this) (fun f => f)), hy]; exact this
        have h2 : wr.cell? ⟨bb, ob + k, none⟩ = some (.int .i64 y) := by
          have := HB.out k hlt
          rw [World.cell?_of_block (hon.block bb (World.block_lt_of_cell? w _ this) (fun f => f)), hy]; exact this
        have i0 : (0 : Int) ≤ (k : Int) := by omega
        have i1 : (k : Int) < (n : Int) := by omega
        have hy1 : (y != y) = false := by simp
        clear hy
        go_wp2
        go_quiet (fail)
        go_wp2
        go_roundw
        case rel => exact ⟨k + 1, by omega, by go_num, md + nq, by rw [HMD.out, World.drewN_drewN]⟩
        case measure => simp [intOf]; omega
      · go_wp2
        go_ret
        exact ⟨rfl, md, HMD.out⟩
theorem isame_eq (va vb : Value) (xs : List Int) (w : World) (ha : Bs .i64 w va xs) (hb : Bs .i64 w vb xs) (hl : xs.length ≤ 140737488355328) :
    Calls Tryz.prog 7 #[va, vb] w fun e w' => e = .returned (.bool true) ∧ Only (fun _ => False) w w' := by
  refine (isame_q va vb xs w ha hb hl).mono ?_
  rintro e w' ⟨rfl, m, rfl⟩
  exact ⟨rfl, (Only.refl _ _).drewN m⟩

end Go.Proofs.YtgbimghhdbmjiaaGreat

/- The head of each statement on a list of ints: the document's example holds. -/
namespace Go.Proofs.YtgbimghhdbmjiaaGreat
open Go.RowKit

theorem WAY8_len {l : List Int} (hg : I64s l) (tag : Int) : (WAY8 l tag).1.length ≤ 20000000 := by
  unfold WAY8
  by_cases ht : tag < 0 ∨ 4 < tag
  · rw [if_pos ht]; decide
  · rw [if_neg ht]
    by_cases hl : 65536 < l.length
    · rw [if_pos hl]; decide
    · rw [if_neg hl]
      by_cases hne : l = []
      · subst hne; rw [WAY_nil]; decide
      · by_cases h0 : tag.toNat = 0
        · rw [h0, WAY_zero]
          simp only [fx_length]; omega
        · by_cases hw : (WAY l tag.toNat).2 = 0
          · obtain ⟨_, e⟩ := WAY_ok hne h0 hw
            rw [e]
            have hp : 0 < l.length := List.length_pos_iff.2 hne
            have hz := zD_u64 hg (tms tag.toNat)
            have h1 := WOTH_len (hz.drop 1) (by rw [List.length_drop, zD_length]; omega) tag.toNat
            have h2 := getD_u64 hz (by rw [zD_length]; exact hp)
            have h3 := gs_le10 (v := ((zsn (D (tms tag.toNat) l)).getD 0 0).toNat) (by omega)
            simp only [List.length_append]; omega
          · rw [WAY_err (by omega) hw]; decide

set_option maxHeartbeats 800000 in
set_option maxRecDepth 100000 in
theorem awake_any (w : World) :
    Calls Tryz.prog 4 #[] w fun e w' => e = .returned (.bool true) ∧ Only (fun _ => False) w w' := by
  have A := encode8_all (.slice (some ⟨w.heap.size, 0, none⟩) 4 4) [10, 20, 30, 40] (w.alloc (.cells #[.int .i64 10, .int .i64 20, .int .i64 30, .int .i64 40] 3)) (Bs.litN .i64 w 3 [10, 20, 30, 40] _ _ rfl rfl) i64_ex
  rw [ENC8_ex] at A
  have A := hideIt A
  go_enter Tryz.func4, Tryz.ntmps4
  go_wp2_with fail
  refine A.out.mono ?_
  rintro e w1 ⟨v1, rfl, own1, o1⟩
  have O1 := hideIt (((Only.refl (fun _ => False) w).alloc (.cells #[.int .i64 10, .int .i64 20, .int .i64 30, .int .i64 40] 3)).same o1)
  have B1 := hideIt (Bs.of_own own1)
  have B := decode8_all (.slice (some ⟨w1.heap.size, 0, none⟩) 4 4) [2, 20, 20, 0] 4 (w1.alloc (.cells #[.int .u8 2, .int .u8 20, .int .u8 20, .int .u8 0] 5)) (Bs.litN .u8 w1 5 [2, 20, 20, 0] _ _ rfl rfl) (by intro x hx; simp at hx; omega) (by decide)
  rw [DEC8_ex] at B
  have B := hideIt B
  obtain ⟨f1, c1, e1⟩ := B1.out.len
  subst e1
  clear A own1 o1
  go_wp2_with fail
  refine B.out.mono ?_
  rintro e w2 ⟨v2, rfl, own2, o2⟩
  have O2 := hideIt ((O1.out.alloc (.cells #[.int .u8 2, .int .u8 20, .int .u8 20, .int .u8 0] 5)).same o2)
  have B2 := hideIt (Bs.of_own own2)
  have on12 : Only (fun _ => False) w1 w2 := ((Only.refl (fun _ => False) w1).alloc (.cells #[.int .u8 2, .int .u8 20, .int .u8 20, .int .u8 0] 5)).same o2
  have SM := hideIt (same_eq _ (.slice (some ⟨w2.heap.size, 0, none⟩) 4 4) [2, 20, 20, 0] (w2.alloc (.cells #[.int .u8 2, .int .u8 20, .int .u8 20, .int .u8 0] 5)) ((B1.out.past on12).later ((Below.refl _ _).alloc (Nat.le_refl _) _)) (Bs.litN .u8 w2 5 [2, 20, 20, 0] _ _ rfl rfl) (by decide))
  obtain ⟨f2, c2, e2⟩ := B2.out.len
  subst e2
  clear B own2 o2 on12
  go_wp2_with fail
  refine SM.out.mono ?_
  rintro e w3 ⟨rfl, o3⟩
  have O3 := hideIt ((O2.out.alloc (.cells #[.int .u8 2, .int .u8 20, .int .u8 20, .int .u8 0] 5)).same o3)
  have on23 : Only (fun _ => False) w2 w3 := ((Only.refl (fun _ => False) w2).alloc (.cells #[.int .u8 2, .int .u8 20, .int .u8 20, .int .u8 0] 5)).same o3
  have SU := hideIt (isame_eq _ (.slice (some ⟨w3.heap.size, 0, none⟩) 4 4) [10, 20, 30, 40] (w3.alloc (.cells #[.int .i64 10, .int .i64 20, .int .i64 30, .int .i64 40] 3)) ((B2.out.past on23).later ((Below.refl _ _).alloc (Nat.le_refl _) _)) (Bs.litN .i64 w3 3 [10, 20, 30, 40] _ _ rfl rfl) (by decide))
  clear SM o3 on23
  go_wp2_with fail
  refine SU.out.mono ?_
  rintro e w4 ⟨rfl, o4⟩
  have O4 := hideIt ((O3.out.alloc (.cells #[.int .i64 10, .int .i64 20, .int .i64 30, .int .i64 40] 3)).same o4)
  clear SU o4
  go_wp2
  go_ret
  exact ⟨rfl, O4.out⟩
end Go.Proofs.YtgbimghhdbmjiaaGreat
