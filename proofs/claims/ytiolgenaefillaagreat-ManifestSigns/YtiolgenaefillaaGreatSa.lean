/- The document's Same of one manifest and itself; are there few entries? -/
import Derived.Test.YtiolgenaefillaaGreatJd
import Derived.Test.YtiolgenaefillaaGreatG9
import Derived.BigQuiet
namespace Go.Proofs.YtiolgenaefillaaGreat
open Go.RowKit

theorem size_of_nums (x : List Int) : (strOfNums x).size = x.length := strOfNums_size x
set_option maxHeartbeats 2000000 in
set_option maxRecDepth 100000 in
theorem rsame21_eq (x y vp ve vr vp' ve' vr' : Value) (m : MAN) (w : World) (h : Mf w x m vp ve vr) (h' : Mf w y m vp' ve' vr') (hl : m.es.length ≤ 9223372036854775806) (hp : m.prev.length ≤ 140737488355328) (hr : m.root.length ≤ 140737488355328) :
    Calls Tryz.prog 40 #[x, y] w fun e w' => e = .returned (.bool true) ∧ Only (fun _ => False) w w' := by
  have hf := h.form
  have hf' := h'.form
  obtain ⟨ap, pc, ep⟩ := h.prev.len
  obtain ⟨ae, ec, ee⟩ := h.es.len
  obtain ⟨ar, rc, er⟩ := h.root.len
  obtain ⟨ap', pc', ep'⟩ := h'.prev.len
  obtain ⟨ae', ec', ee'⟩ := h'.es.len
  obtain ⟨ar', rc', er'⟩ := h'.root.len
  subst ep ee er hf ep' ee' er' hf'
  have SP := hideIt (fun W (o : Only (fun _ => False) w W) => same_any _ _ m.prev m.prev W (h.prev.past o) (h'.prev.past o) hp)
  have SR := hideIt (fun W (o : Only (fun _ => False) w W) => same_any _ _ m.root m.root W (h.root.past o) (h'.root.past o) hr)
  rw [decide_eq_true rfl] at SP SR
  have oa : Only (fun _ => False) w ((w.alloc (.cells #[.int .u64 m.ver, .slice ap m.prev.length pc, .slice ae m.es.length ec, .slice ar m.root.length rc] 26)).alloc (.cells #[.int .u64 m.ver, .slice ap' m.prev.length pc', .slice ae' m.es.length ec', .slice ar' m.root.length rc'] 26)) := ((Only.refl _ _).alloc _).alloc _
  have KA := hideIt (heap_alloc_old (o := .cells #[.int .u64 m.ver, .slice ap' m.prev.length pc', .slice ae' m.es.length ec', .slice ar' m.root.length rc'] 26) (heap_alloc_new w (.cells #[.int .u64 m.ver, .slice ap m.prev.length pc, .slice ae m.es.length ec, .slice ar m.root.length rc] 26)))
  have KB := hideIt (heap_at_new (W := w.alloc (.cells #[.int .u64 m.ver, .slice ap m.prev.length pc, .slice ae m.es.length ec, .slice ar m.root.length rc] 26)) (o := .cells #[.int .u64 m.ver, .slice ap' m.prev.length pc', .slice ae' m.es.length ec', .slice ar' m.root.length rc'] 26) (k := w.heap.size + 1) (by simp))
  have OA := hideIt oa
  have EA := hideIt h.es
  have EB := hideIt h'.es
  generalize m.ver = ver at *
  generalize m.prev.length = pl at *
  generalize m.root.length = rl at *
  obtain ⟨n, hn⟩ : ∃ n, n = m.es.length := ⟨_, rfl⟩
  rw [← hn] at EA EB KA KB hl OA
  rw [← hn]
  have HN := hideIt hn
  have dv : ((ver : Int) != (ver : Int)) = false := by simp
  have dn : ((n : Int) != (n : Int)) = false := by simp
  clear h h' oa hn
  go_enter Tryz.func40, Tryz.ntmps40
  go_wp2_with fail
  refine (SP.out _ OA.out).mono ?_
  rintro e w1 ⟨rfl, o1⟩
  have A1 := hideIt (o1.heap KA.out (fun f => f))
  have B1 := hideIt (o1.heap KB.out (fun f => f))
  have O1 := hideIt (OA.out.same o1)
  obtain ⟨a0, a1, a2, a3⟩ := (cells4 A1.out).1
  obtain ⟨b0, b1, b2, b3⟩ := (cells4 B1.out).1
  clear o1 SP KA KB OA
  go_wp2_with fail
  refine (SR.out _ O1.out).mono ?_
  rintro e w2 ⟨rfl, o2⟩
  have A2 := hideIt (o2.heap A1.out (fun f => f))
  have B2 := hideIt (o2.heap B1.out (fun f => f))
  have O2 := hideIt (O1.out.same o2)
  clear a0 a1 a2 a3 b0 b1 b2 b3
  obtain ⟨a0, a1, a2, a3⟩ := (cells4 A2.out).1
  obtain ⟨b0, b1, b2, b3⟩ := (cells4 B2.out).1
  have R0 := hideIt (Only.refl (fun _ => False) w2)
  clear o2 SR A1 B1 O1
  go_wp2
  clear a0 a1 a2 a3 b0 b1 b2 b3
  go_loopw [5] (fun i wr => ∃ k : Nat, k ≤ n ∧ i = .int .i64 k ∧ Only (fun _ => False) w2 wr) (fun i _ => n - (intOf i).toNat)
  case atStart => exact ⟨0, Nat.zero_le _, rfl, R0.out⟩
  case round =>
    clear R0
    obtain ⟨k, hk, rfl, ho⟩ := hrel
    obtain ⟨a0, a1, a2, a3⟩ := (cells4 (ho.heap A2.out (fun f => f))).1
    obtain ⟨b0, b1, b2, b3⟩ := (cells4 (ho.heap B2.out (fun f => f))).1
    have HO := hideIt ho
    by_cases hlt : k < n
    · have hlt' : k < m.es.length := by rw [← HN.out]; exact hlt
      obtain ⟨b, off, cap, e, hc0, hc1⟩ := (EA.out.past (O2.out.same ho)).at k hlt'
      simp only [Value.slice.injEq] at e
      obtain ⟨rfl, _, rfl⟩ := e
      obtain ⟨b', off', cap', e, hc0', hc1'⟩ := (EB.out.past (O2.out.same ho)).at k hlt'
      simp only [Value.slice.injEq] at e
      obtain ⟨rfl, _, rfl⟩ := e
      generalize m.es.getD k ([], 0) = z at *
      have i0 : (0 : Int) ≤ (k : Int) := by omega
      have i1 : (k : Int) < (n : Int) := by omega
      have ds : ((strOfNums z.1).toList == (strOfNums z.1).toList) = true := by simp
      have dz : (z.2 != z.2) = false := by simp
      clear ho hlt' EA EB
      go_wp2_with fail
      go_quiet (fail)
      have NX : Hid (∀ q, Only (fun _ => False) w2 (wr.drewN q)) := fun q => HO.out.drewN q
      clear HO
      go_wp2
      go_roundw
      case rel => exact ⟨k + 1, by omega, by go_num, NX.out _⟩
      case measure => simp [intOf]; omega
    · obtain rfl : k = n := by omega
      clear ho
      go_wp2
      go_ret
      exact ⟨rfl, O2.out.same HO.out⟩
theorem lsame21_eq (x y vp ve vr vp' ve' vr' : Value) (m : MAN) (w : World) (h : Mf w x m vp ve vr) (h' : Mf w y m vp' ve' vr') (hl : m.es.length ≤ 9223372036854775806) (hp : m.prev.length ≤ 140737488355328) (hr : m.root.length ≤ 140737488355328) :
    Calls Tryz.prog 13 #[x, y] w fun e w' => e = .returned (.bool true) ∧ Only (fun _ => False) w w' := by
  have A := hideIt (fun W (o : Only (fun _ => False) w W) => rsame21_eq x y vp ve vr vp' ve' vr' m W (h.past o) (h'.past o) hl hp hr)
  have hf := h.form
  have hf' := h'.form
  obtain ⟨ap, pc, ep⟩ := h.prev.len
  obtain ⟨ae, ec, ee⟩ := h.es.len
  obtain ⟨ar, rc, er⟩ := h.root.len
  obtain ⟨ap', pc', ep'⟩ := h'.prev.len
  obtain ⟨ae', ec', ee'⟩ := h'.es.len
  obtain ⟨ar', rc', er'⟩ := h'.root.len
  subst ep ee er hf ep' ee' er' hf'
  have ha := load_man (heap_alloc_old (o := .cells #[.int .u64 m.ver, .slice ap' m.prev.length pc', .slice ae' m.es.length ec', .slice ar' m.root.length rc'] 26) (heap_alloc_new w (.cells #[.int .u64 m.ver, .slice ap m.prev.length pc, .slice ae m.es.length ec, .slice ar m.root.length rc] 26)))
  have hb := load_man (heap_at_new (W := w.alloc (.cells #[.int .u64 m.ver, .slice ap m.prev.length pc, .slice ae m.es.length ec, .slice ar m.root.length rc] 26)) (o := .cells #[.int .u64 m.ver, .slice ap' m.prev.length pc', .slice ae' m.es.length ec', .slice ar' m.root.length rc'] 26) (k := w.heap.size + 1) (by simp))
  have oa : Only (fun _ => False) w ((w.alloc (.cells #[.int .u64 m.ver, .slice ap m.prev.length pc, .slice ae m.es.length ec, .slice ar m.root.length rc] 26)).alloc (.cells #[.int .u64 m.ver, .slice ap' m.prev.length pc', .slice ae' m.es.length ec', .slice ar' m.root.length rc'] 26)) := ((Only.refl _ _).alloc _).alloc _
  have OA := hideIt oa
  clear h h' oa
  go_enter Tryz.func13, Tryz.ntmps13
  go_wp2_with fail
  refine (A.out _ OA.out).mono ?_
  rintro e w1 ⟨rfl, o1⟩
  have O1 := hideIt (OA.out.same o1)
  clear o1 A OA ha hb
  go_wp2
  go_ret
  exact ⟨rfl, O1.out⟩
/-- are there few? -/
def FEWM (m : MAN) : Bool := decide (m.es.length ≤ 100 ∧ m.prev.length ≤ 300 ∧ m.root.length ≤ 300 ∧ ∀ e ∈ m.es, e.1.length ≤ 200)
set_option maxHeartbeats 2000000 in
set_option maxRecDepth 100000 in
theorem few_any (x vp ve vr : Value) (m : MAN) (w : World) (h : Mf w x m vp ve vr) :
    Calls Tryz.prog 7 #[x] w fun e w' => e = .returned (.bool (FEWM m)) ∧ Only (fun _ => False) w w' := by
  have hf := h.form
  obtain ⟨ap, pc, ep⟩ := h.prev.len
  obtain ⟨ae, ec, ee⟩ := h.es.len
  obtain ⟨ar, rc, er⟩ := h.root.len
  subst ep ee er hf
  have oa : Only (fun _ => False) w (w.alloc (.cells #[.int .u64 m.ver, .slice ap m.prev.length pc, .slice ae m.es.length ec, .slice ar m.root.length rc] 26)) := (Only.refl _ _).alloc _
  by_cases h1 : 100 < m.es.length
  · have e1 : FEWM m = false := decide_eq_false (by omega)
    rw [e1]
    have d1 : decide ((100 : Int) < (m.es.length : Int)) = true := by simp; omega
    have d2 : decide (100 < m.es.length) = true := by simp; omega
    have OA := hideIt oa
    clear h oa e1
    generalize m.es.length = n at *
    go_enter Tryz.func7, Tryz.ntmps7
    go_wp2
    go_ret
    exact ⟨rfl, OA.out⟩
  have hl : m.es.length ≤ 9223372036854775806 := by omega
  have d1 : decide ((100 : Int) < (m.es.length : Int)) = false := by simp; omega
  have d2 : decide (100 < m.es.length) = false := by simp; omega
  by_cases h2 : 300 < m.prev.length
  · have e1 : FEWM m = false := decide_eq_false (by omega)
    rw [e1]
    have d3 : decide ((300 : Int) < (m.prev.length : Int)) = true := by simp; omega
    have d4 : decide (300 < m.prev.length) = true := by simp; omega
    have OA := hideIt oa
    clear h oa e1
    generalize m.es.length = n at *
    generalize m.prev.length = p at *
    go_enter Tryz.func7, Tryz.ntmps7
    go_wp2
    go_ret
    exact ⟨rfl, OA.out⟩
  have d3 : decide ((300 : Int) < (m.prev.length : Int)) = false := by simp; omega
  have d4 : decide (300 < m.prev.length) = false := by simp; omega
  by_cases h3 : 300 < m.root.length
  · have e1 : FEWM m = false := decide_eq_false (by omega)
    rw [e1]
    have d5 : decide ((300 : Int) < (m.root.length : Int)) = true := by simp; omega
    have d6 : decide (300 < m.root.length) = true := by simp; omega
    have OA := hideIt oa
    clear h oa e1
    generalize m.es.length = n at *
    generalize m.prev.length = p at *
    generalize m.root.length = r at *
    go_enter Tryz.func7, Tryz.ntmps7
    go_wp2
    go_ret
    exact ⟨rfl, OA.out⟩
  have d5 : decide ((300 : Int) < (m.root.length : Int)) = false := by simp; omega
  have d6 : decide (300 < m.root.length) = false := by simp; omega
  have KA := hideIt (heap_alloc_new w (.cells #[.int .u64 m.ver, .slice ap m.prev.length pc, .slice ae m.es.length ec, .slice ar m.root.length rc] 26))
  have EA := hideIt (h.es.past oa)
  have R0 := hideIt (Only.refl (fun _ => False) (w.alloc (.cells #[.int .u64 m.ver, .slice ap m.prev.length pc, .slice ae m.es.length ec, .slice ar m.root.length rc] 26)))
  have OA := hideIt oa
  have HFE : Hid (FEWM m = decide (∀ e ∈ m.es, e.1.length ≤ 200)) := by
    simp only [Hid, FEWM, decide_eq_decide]
    exact ⟨fun q => q.2.2.2, fun q => ⟨by omega, by omega, by omega, q⟩⟩
  rw [HFE.out]
  generalize m.ver = ver at *
  generalize m.prev.length = pl at *
  generalize m.root.length = rl at *
  obtain ⟨E, hE⟩ : ∃ E, E = m.es := ⟨_, rfl⟩
  rw [← hE] at EA KA OA R0 d1 d2 hl h1
  rw [← hE]
  obtain ⟨n, hn⟩ : ∃ n, n = E.length := ⟨_, rfl⟩
  rw [← hn] at EA KA OA R0 d1 d2 hl h1
  rw [← hn]
  have HN := hideIt hn
  obtain ⟨W, hW⟩ : ∃ W, W = w.alloc (.cells #[.int .u64 ver, .slice ap pl pc, .slice ae n ec, .slice ar rl rc] 26) := ⟨_, rfl⟩
  rw [← hW] at EA KA R0 OA
  have HW := hideIt hW
  clear h oa hn hE HFE hW
  go_enter Tryz.func7, Tryz.ntmps7
  go_wp2
  rw [← HW.out]
  go_loopw [3] (fun i wr => ∃ k : Nat, k ≤ n ∧ i = .int .i64 k ∧ (∀ j, j < k → (E.getD j ([], 0)).1.length ≤ 200) ∧ Only (fun _ => False) W wr) (fun i _ => n - (intOf i).toNat)
  case atStart => exact ⟨0, Nat.zero_le _, rfl, fun j hj => by omega, R0.out⟩
  case round =>
    clear R0
    obtain ⟨k, hk, rfl, hall, ho⟩ := hrel
    obtain ⟨a0, a1, a2, a3⟩ := (cells4 (ho.heap KA.out (fun f => f))).1
    have HO := hideIt ho
    have HALL := hideIt hall
    by_cases hlt : k < n
    · have hlt' : k < E.length := by rw [← HN.out]; exact hlt
      obtain ⟨b, off, cap, e, hc0, hc1⟩ := (EA.out.past ho).at k hlt'
      simp only [Value.slice.injEq] at e
      obtain ⟨rfl, _, rfl⟩ := e
      have hmem : E.getD k ([], 0) ∈ E := eget_mem hlt'
      obtain ⟨z, hz⟩ : ∃ z, z = E.getD k ([], 0) := ⟨_, rfl⟩
      rw [← hz] at hc0 hc1 hmem
      have HZ := hideIt hz
      have HME := hideIt hmem
      have hsz := size_of_nums z.1
      have i0 : (0 : Int) ≤ (k : Int) := by omega
      have i1 : (k : Int) < (n : Int) := by omega
      clear ho hall hlt' EA hmem hz hc1
      by_cases hb : 200 < z.1.length
      · have f1 : decide ((200 : Int) < ((strOfNums z.1).size : Int)) = true := by rw [hsz]; simp; omega
        have f2 : decide (200 < (strOfNums z.1).size) = true := by rw [hsz]; simp; omega
        have HF : Hid (decide (∀ e ∈ E, e.1.length ≤ 200) = false) := decide_eq_false fun q => by have := q z HME.out; omega
        clear hsz hb
        go_wp2
        go_ret
        exact ⟨by rw [HF.out]; rfl, OA.out.same HO.out⟩
      · have f1 : decide ((200 : Int) < ((strOfNums z.1).size : Int)) = false := by rw [hsz]; simp; omega
        have f2 : decide (200 < (strOfNums z.1).size) = false := by rw [hsz]; simp; omega
        clear hsz
        go_wp2
        go_roundw
        case rel =>
          refine ⟨k + 1, by omega, by go_num, fun j hj => ?_, HO.out⟩
          rcases Nat.lt_succ_iff_lt_or_eq.1 hj with q | rfl
          · exact HALL.out j q
          · rw [← HZ.out]; omega
        case measure => simp [intOf]; omega
    · obtain rfl : k = n := by omega
      have HF : Hid (decide (∀ e ∈ E, e.1.length ≤ 200) = true) := decide_eq_true fun e he => by
        obtain ⟨j, hj, rfl⟩ := List.getElem_of_mem he
        have := hall j (by rw [HN.out]; exact hj)
        rw [List.getD_eq_getElem?_getD, List.getElem?_eq_getElem hj] at this
        exact this
      clear ho hall
      go_wp2
      go_ret
      exact ⟨by rw [HF.out]; rfl, OA.out.same HO.out⟩
end Go.Proofs.YtiolgenaefillaaGreat
