/- Several texts in one: Ka, Kp, En2, Cat, Pa, De. -/
import Derived.Test.YthapipgaohlgdabGreatDoorG11
import Derived.Test.YthapipgaohlgdabGreatDoorG7
import Derived.BigRegion
import Derived.WalkLawsBesides
import Derived.Test.YthapipgaohlgdabGreatDoorG5
import Derived.Test.YthapipgaohlgdabGreatDoorG3
import Derived.Test.YthapipgaohlgdabGreatDoorG4
import Derived.Deep.RegionHeld3
import Derived.Test.YthapipgaohlgdabGreatDoorProg
import Derived.Test.YthapipgaohlgdabGreatDoorG1
import Derived.WalkSpells

/- Package chunk: samples apart, and together again. -/
namespace Go.Proofs.YthapipgaohlgdabGreatDoor
open Go.RowKit

def prt (l : List Int) (n k : Nat) : List Int := l.take k ++ List.replicate (n - k) 0
theorem prt_len (l : List Int) (k : Nat) (hk : k ≤ l.length) : (prt l l.length k).length = l.length := by
  simp [prt]; omega
theorem prt_zero (kd : IntKind) (l : List Int) (n : Nat) : (prt l n 0).map (Value.int kd) = (madeCells #[Value.int kd 0] (n * 1)).toList := by
  simp only [prt, List.take_zero, List.nil_append, Nat.sub_zero, List.map_replicate]
  unfold madeCells
  apply List.ext_getElem
  · simp
  · intro i h1 h2
    simp [Nat.mod_one]
theorem prt_all (l : List Int) : prt l l.length l.length = l := by simp [prt]
theorem prt_step (l : List Int) (k : Nat) (h : k < l.length) : (prt l l.length k).set k (l.getD k 0) = prt l l.length (k + 1) := by
  unfold prt
  obtain ⟨m, hm⟩ : ∃ m, l.length - k = m + 1 := ⟨l.length - k - 1, by omega⟩
  rw [hm, show l.length - (k + 1) = m by omega, List.replicate_succ, List.set_append_right _ _ (by simp; omega)]
  rw [List.take_succ_eq_append_getElem h]
  have e : k - (l.take k).length = 0 := by simp; omega
  rw [e, List.set_cons_zero, List.append_assoc]
  simp [List.getD_eq_getElem?_getD, List.getElem?_eq_getElem h]
theorem pgetD (s : List (Int × Int)) (k : Nat) : ((s.map Prod.fst).getD k 0 = (s.getD k (0, 0)).1) ∧ ((s.map Prod.snd).getD k 0 = (s.getD k (0, 0)).2) := by
  rw [List.getD_eq_getElem?_getD, List.getD_eq_getElem?_getD, List.getD_eq_getElem?_getD, List.getElem?_map, List.getElem?_map]
  cases s[k]? <;> exact ⟨rfl, rfl⟩

set_option maxHeartbeats 1600000 in
set_option maxRecDepth 100000 in
/-- TIMES AND PATTERNS APART: two new lists. -/
theorem apart_any (v : Value) (s : List (Int × Int)) (w : World) (h : Sps w v s) (hl : s.length ≤ 65536) :
    Calls Tryz.prog 9 #[v] w fun e w' => ∃ u1 u2, e = .returned (.tuple #[u1, u2]) ∧ Bs .i64 w' u1 (s.map Prod.fst) ∧ Bs .u64 w' u2 (s.map Prod.snd) ∧ Only (fun _ => False) w w' := by
  obtain ⟨i0, hi, hz0, hz1, hz2⟩ := info_parts Tryz.infoI64
  obtain ⟨j0, hj, gz0, gz1, gz2⟩ := info_parts Tryz.infoU64
  have HB := hideIt h
  obtain ⟨ao, cap, rfl⟩ := h.len
  obtain ⟨n, hn⟩ : ∃ n, n = s.length := ⟨_, rfl⟩
  rw [← hn] at hl HB
  rw [← hn]
  have HN := hideIt hn
  obtain ⟨wm, hmk, hown0, hgr⟩ := run_make_full (P := Tryz.prog) w w.heap.size 38 3 i0 (.int .i64 0) 1 Tryz.underlying38 hi hz0 hz1 .i64 .i64 n (by rw [hz2]; omega) (by unfold maxLen; omega) (Nat.le_refl _)
  obtain ⟨wk, hmk2, hown1, hgr1⟩ := run_make_full (P := Tryz.prog) wm wm.heap.size 39 26 j0 (.int .u64 0) 1 Tryz.underlying39 hj gz0 gz1 .i64 .i64 n (by rw [gz2]; omega) (by unfold maxLen; omega) (Nat.le_refl _)
  have START : Hid (wk.ownsRow w.heap.size 3 1 (.slice (some ⟨w.heap.size, 0, none⟩) n n) n ((prt (s.map Prod.fst) n 0).map (Value.int .i64)) ∧ wk.ownsRow wm.heap.size 26 1 (.slice (some ⟨wm.heap.size, 0, none⟩) n n) n ((prt (s.map Prod.snd) n 0).map (Value.int .u64)) ∧ Only (fun _ => False) w wk ∧ w.heap.size < wm.heap.size) := by
    rw [show (Value.int .u64 0).cells = #[Value.int .u64 0] from rfl] at hown1
    rw [show (Value.int .i64 0).cells = #[Value.int .i64 0] from rfl] at hown0
    rw [prt_zero, prt_zero]
    have o1 : Only (fun _ => False) w wm := (Only.refl _ _).grown hgr (fun _ _ e => by cases e)
    have o2 : Only (fun _ => False) wm wk := (Only.refl _ _).grown hgr1 (fun _ _ e => by cases e)
    exact ⟨o2.own hown0 (fun _ _ f => f), hown1, o1.same o2, (hown0.lt _ rfl).2⟩
  clear hown0 hgr hown1 hgr1
  obtain ⟨N, hN⟩ : ∃ N, N = w.heap.size := ⟨_, rfl⟩
  obtain ⟨M, hM⟩ : ∃ M, M = wm.heap.size := ⟨_, rfl⟩
  rw [← hN] at hmk START
  rw [← hM] at hmk2 START
  have HNN := hideIt hN
  have HMM := hideIt hM
  clear h hn hN hM
  go_enter Tryz.func9, Tryz.ntmps9
  go_wp2
  go_loopw [16] (fun i wr => ∃ k : Nat, k ≤ n ∧ i = .int .i64 k ∧ wr.ownsRow N 3 1 (.slice (some ⟨N, 0, none⟩) n n) n ((prt (s.map Prod.fst) n k).map (Value.int .i64)) ∧ wr.ownsRow M 26 1 (.slice (some ⟨M, 0, none⟩) n n) n ((prt (s.map Prod.snd) n k).map (Value.int .u64)) ∧ Only (fun _ => False) w wr) (fun i _ => n - (intOf i).toNat)
  case atStart => exact ⟨0, Nat.zero_le _, rfl, START.out.1, START.out.2.1, START.out.2.2.1⟩
  case round =>
    obtain ⟨k, hk, rfl, hown, hown2, hon⟩ := hrel
    have HNM : N < M := START.out.2.2.2
    clear START hmk hmk2
    have HOWN := hideIt hown
    have HOWN2 := hideIt hown2
    have HON := hideIt hon
    by_cases hlt : k < n
    · have dlt : decide ((k : Int) < (n : Int)) = true := by simp; omega
      have dlt2 : (k : Int) < (n : Int) := by omega
      have hkl : k < s.length := by rw [← HN.out]; exact hlt
      obtain ⟨b, off, cap', e1, hc0, hc1⟩ := (HB.out.past hon).at k hkl
      have ea : ao = some ⟨b, off, none⟩ := by simp at e1; exact e1.1
      subst ea
      clear e1
      have hcell : ∃ y, wr.cell? ⟨N, k, none⟩ = some (.int .i64 y) := by
        have hz := prt_len (s.map Prod.fst) k (by simp; omega)
        rw [List.length_map, ← HN.out] at hz
        refine ⟨(prt (s.map Prod.fst) n k).getD k 0, ?_⟩
        rw [hown.cellAt k (by omega), List.getElem?_map, List.getElem?_eq_getElem (by rw [hz]; omega), List.getD_eq_getElem?_getD, List.getElem?_eq_getElem (by rw [hz]; omega)]
        rfl
      have hcell2 : ∃ y, wr.cell? ⟨M, k, none⟩ = some (.int .u64 y) := by
        have hz := prt_len (s.map Prod.snd) k (by simp; omega)
        rw [List.length_map, ← HN.out] at hz
        refine ⟨(prt (s.map Prod.snd) n k).getD k 0, ?_⟩
        rw [hown2.cellAt k (by omega), List.getElem?_map, List.getElem?_eq_getElem (by rw [hz]; omega), List.getD_eq_getElem?_getD, List.getElem?_eq_getElem (by rw [hz]; omega)]
        rfl
      obtain ⟨y, hy⟩ := hcell
      obtain ⟨y2, hy2⟩ := hcell2
      have hfr : wr.frozen? ⟨N, k, none⟩ = false := hown.frozenAt _
      have hfr2 : wr.frozen? ⟨M, k, none⟩ = false := hown2.frozenAt _
      have hNlt : N < wr.heap.size := (hown.lt _ rfl).2
      have hMlt : M < wr.heap.size := (hown2.lt _ rfl).2
      have hstep : Hid (((prt (s.map Prod.fst) n k).map (Value.int .i64)).set k (.int .i64 (s.getD k (0, 0)).1) = (prt (s.map Prod.fst) n (k + 1)).map (Value.int .i64)) := by
        simp only [Hid]; rw [← List.map_set, ← (pgetD s k).1]
        have := prt_step (s.map Prod.fst) k (by simpa using hkl)
        rw [List.length_map, ← HN.out] at this
        rw [this]
      have hstep2 : Hid (((prt (s.map Prod.snd) n k).map (Value.int .u64)).set k (.int .u64 (s.getD k (0, 0)).2) = (prt (s.map Prod.snd) n (k + 1)).map (Value.int .u64)) := by
        simp only [Hid]; rw [← List.map_set, ← (pgetD s k).2]
        have := prt_step (s.map Prod.snd) k (by simpa using hkl)
        rw [List.length_map, ← HN.out] at this
        rw [this]
      generalize (s.getD k (0, 0)).1 = x at *
      generalize (s.getD k (0, 0)).2 = z at *
      have ne1 : ¬ N = M := by omega
      have ne2 : ¬ M = N := by omega
      have ne3 : ¬ N = wr.heap.size := by omega
      have ne4 : ¬ M = wr.heap.size := by omega
      have ne5 : ¬ wr.heap.size = N := by omega
      have ne6 : ¬ wr.heap.size = M := by omega
      have hk0 : (0 : Int) ≤ (k : Int) := by omega
      clear hown hown2 hon HB hkl
      go_wp2
      go_region
      go_wp2
      go_roundw
      case rel =>
        have e1 := (HOWN.out.stored k (.int .i64 x)).1
        rw [hstep.out] at e1
        have o1 : Only (fun b => b = N) wr (wr.setCell ⟨N, k, none⟩ (.int .i64 x)) := (Only.refl (fun b => b = N) wr).setCell (p := ⟨N, k, none⟩) (fun _ => rfl) _
        have e2 := ((o1.own HOWN2.out (fun b hb e => by cases hb; exact ne2 e)).stored k (.int .u64 z)).1
        rw [hstep2.out] at e2
        have o2 : Only (fun b => b = M) (wr.setCell ⟨N, k, none⟩ (.int .i64 x)) ((wr.setCell ⟨N, k, none⟩ (.int .i64 x)).setCell ⟨M, k, none⟩ (.int .u64 z)) := (Only.refl (fun b => b = M) _).setCell (p := ⟨M, k, none⟩) (fun _ => rfl) _
        have o3 : Only (fun _ => False) ((wr.setCell ⟨N, k, none⟩ (.int .i64 x)).setCell ⟨M, k, none⟩ (.int .u64 z)) ((((wr.setCell ⟨N, k, none⟩ (.int .i64 x)).setCell ⟨M, k, none⟩ (.int .u64 z)).alloc (Obj.cells #[Value.int IntKind.i64 x, Value.int IntKind.u64 z] 28)).drew) := ((Only.refl _ _).alloc _).drew
        have hNw := HNN.out
        have hMN := HNM
        refine ⟨k + 1, by omega, by go_num, o3.own (o2.own e1 (fun b hb e => by cases hb; exact ne1 e)) (fun _ _ f => f), o3.own e2 (fun _ _ f => f), ?_⟩
        exact ((HON.out.trans o1 (fun b hb e => by omega)).trans o2 (fun b hb e => by omega)).trans o3 (fun _ _ f => f)
      case measure => simp [intOf]; omega
    · obtain rfl : k = n := by omega
      have dlt : decide ((k : Int) < (k : Int)) = false := by simp
      have F : Hid (Bs .i64 wr (.slice (some ⟨N, 0, none⟩) k k) (s.map Prod.fst) ∧ Bs .u64 wr (.slice (some ⟨M, 0, none⟩) k k) (s.map Prod.snd)) := by
        have h1 := HOWN.out
        have h2 := HOWN2.out
        have e1 := prt_all (s.map Prod.fst)
        have e2 := prt_all (s.map Prod.snd)
        rw [List.length_map, ← HN.out] at e1 e2
        rw [e1] at h1
        rw [e2] at h2
        refine ⟨Bs.of_own (lo := N) (E := 3) ?_, Bs.of_own (lo := M) (E := 26) ?_⟩
        · rw [List.length_map, ← HN.out]; exact h1
        · rw [List.length_map, ← HN.out]; exact h2
      clear hown hown2 hon
      go_wp2
      go_ret2
      exact ⟨_, _, rfl, F.out.1, F.out.2, HON.out⟩

/-! together -/
def scells (s : List (Int × Int)) : List Value := s.flatMap fun p => [.int .i64 p.1, .int .u64 p.2]
theorem scells_cons (p : Int × Int) (s : List (Int × Int)) : scells (p :: s) = .int .i64 p.1 :: .int .u64 p.2 :: scells s := rfl
theorem scells_len (s : List (Int × Int)) : (scells s).length = s.length * 2 := by
  induction s with
  | nil => rfl
  | cons p s ih => rw [scells_cons, List.length_cons, List.length_cons, List.length_cons, ih]; omega
theorem scells_at (s : List (Int × Int)) : ∀ (j : Nat), j < s.length → (scells s)[j * 2]? = some (.int .i64 (s.getD j (0, 0)).1) ∧ (scells s)[j * 2 + 1]? = some (.int .u64 (s.getD j (0, 0)).2) := by
  induction s with
  | nil => intro j hj; simp at hj
  | cons p s ih =>
    intro j hj
    cases j with
    | zero => exact ⟨rfl, rfl⟩
    | succ j =>
      have := ih j (by simpa using hj)
      rw [scells_cons, show (j + 1) * 2 = j * 2 + 1 + 1 by omega]
      simpa using this
theorem scells_set (s : List (Int × Int)) : ∀ (j : Nat) (a b : Int), j < s.length → ((scells s).set (j * 2) (.int .i64 a)).set (j * 2 + 1) (.int .u64 b) = scells (s.set j (a, b)) := by
  induction s with
  | nil => intro j a b hj; simp at hj
  | cons p s ih =>
    intro j a b hj
    cases j with
    | zero => rfl
    | succ j =>
      have := ih j a b (by simpa using hj)
      rw [scells_cons, show (j + 1) * 2 = j * 2 + 1 + 1 by omega, List.set_cons_succ, List.set_cons_succ, List.set_cons_succ, List.set_cons_succ, List.set_cons_succ, scells_cons, this]
theorem Sps.of_own {w : World} {lo : Nat} {E : TypeId} {v : Value} {s : List (Int × Int)} (h : w.ownsRow lo E 2 v s.length (scells s)) : Sps w v s := by
  rcases h.2 with ⟨rfl, hn⟩ | ⟨g, cap, cur, rfl, _, hg, hnc, _, hcs, htk⟩
  · have : s = [] := List.eq_nil_of_length_eq_zero hn
    subst this
    exact Sps.nil w
  · refine ⟨_, cap, rfl, hnc, fun _ => ⟨g, 0, rfl, fun j hj => ?_⟩⟩
    have hc : ∀ i, i < s.length * 2 → w.cell? ⟨g, 0 + i, none⟩ = (scells s)[i]? := fun i hi => by
      rw [← htk, List.getElem?_take_of_lt hi]
      simp [World.cell?, hg]
    obtain ⟨h0, h1⟩ := scells_at s j hj
    exact ⟨by rw [hc _ (by omega)]; exact h0, by rw [Nat.add_assoc, hc _ (by omega)]; exact h1⟩
def ppart (s : List (Int × Int)) (n k : Nat) : List (Int × Int) := s.take k ++ List.replicate (n - k) (0, 0)
theorem ppart_len (s : List (Int × Int)) (k : Nat) (hk : k ≤ s.length) : (ppart s s.length k).length = s.length := by
  simp [ppart]; omega
theorem ppart_zero (s : List (Int × Int)) (n : Nat) : scells (ppart s n 0) = (madeCells #[Value.int .i64 0, Value.int .u64 0] (n * 2)).toList := by
  simp only [ppart, List.take_zero, List.nil_append, Nat.sub_zero]
  unfold madeCells
  apply List.ext_getElem?
  intro i
  have hl := scells_len (List.replicate n ((0 : Int), (0 : Int)))
  rw [List.length_replicate] at hl
  by_cases h : i < n * 2
  · obtain ⟨h0, h1⟩ := scells_at (List.replicate n ((0 : Int), (0 : Int))) (i / 2) (by simp; omega)
    have hg : (List.replicate n ((0 : Int), (0 : Int))).getD (i / 2) (0, 0) = (0, 0) := by
      rw [List.getD_eq_getElem?_getD, List.getElem?_replicate]; split <;> rfl
    rw [hg] at h0 h1
    rcases Nat.mod_two_eq_zero_or_one i with hm | hm
    · rw [show i / 2 * 2 = i by omega] at h0
      rw [h0]; simp [h, hm]
    · rw [show i / 2 * 2 + 1 = i by omega] at h1
      rw [h1]; simp [h, hm]
  · rw [List.getElem?_eq_none (by omega), List.getElem?_eq_none (by simp; omega)]
theorem ppart_all (s : List (Int × Int)) : ppart s s.length s.length = s := by simp [ppart]
theorem ppart_step (s : List (Int × Int)) (k : Nat) (h : k < s.length) : (ppart s s.length k).set k (s.getD k (0, 0)) = ppart s s.length (k + 1) := by
  unfold ppart
  obtain ⟨m, hm⟩ : ∃ m, s.length - k = m + 1 := ⟨s.length - k - 1, by omega⟩
  rw [hm, show s.length - (k + 1) = m by omega, List.replicate_succ, List.set_append_right _ _ (by simp; omega)]
  rw [List.take_succ_eq_append_getElem h]
  have e : k - (s.take k).length = 0 := by simp; omega
  rw [e, List.set_cons_zero, List.append_assoc]
  simp [List.getD_eq_getElem?_getD, List.getElem?_eq_getElem h]
set_option maxRecDepth 100000 in
theorem Tryz.infoSm : (Tryz.prog.info? 28).map (fun i => (i.zero, i.size, i.bytes)) = some (some (.agg #[.int .i64 0, .int .u64 0]), 2, 16) := by kernel_rfl

set_option maxHeartbeats 1600000 in
set_option maxRecDepth 100000 in
/-- TIMES AND PATTERNS TOGETHER: a new list. -/
theorem together_any (v1 v2 : Value) (s : List (Int × Int)) (w : World) (h1 : Bs .i64 w v1 (s.map Prod.fst)) (h2 : Bs .u64 w v2 (s.map Prod.snd)) (hl : s.length ≤ 65536) :
    Calls Tryz.prog 36 #[v1, v2] w fun e w' => ∃ u, e = .returned u ∧ w'.ownsRow w.heap.size 28 2 u s.length (scells s) ∧ Only (fun _ => False) w w' := by
  obtain ⟨i0, hi, hz0, hz1, hz2⟩ := info_parts Tryz.infoSm
  have HB1 := hideIt h1
  have HB2 := hideIt h2
  obtain ⟨ao, cap, rfl⟩ := h1.len
  obtain ⟨ao2, cap2, rfl⟩ := h2.len
  obtain ⟨n, hn⟩ : ∃ n, n = s.length := ⟨_, rfl⟩
  rw [List.length_map, ← hn] at HB1 HB2
  rw [List.length_map, List.length_map, ← hn]
  rw [← hn] at hl
  have HN := hideIt hn
  obtain ⟨wm, hmk, hown0, hgr⟩ := run_make_full (P := Tryz.prog) w w.heap.size 22 28 i0 (.agg #[.int .i64 0, .int .u64 0]) 2 Tryz.underlying22 hi hz0 hz1 .i64 .i64 n (by rw [hz2]; omega) (by unfold maxLen; omega) (Nat.le_refl _)
  have START : Hid (wm.ownsRow w.heap.size 28 2 (.slice (some ⟨w.heap.size, 0, none⟩) n n) n (scells (ppart s n 0)) ∧ Only (fun _ => False) w wm) := by
    rw [ppart_zero]
    exact ⟨hown0, (Only.refl _ _).grown hgr (fun _ _ e => by cases e)⟩
  clear hown0 hgr
  obtain ⟨N, hN⟩ : ∃ N, N = w.heap.size := ⟨_, rfl⟩
  rw [← hN] at hmk START
  rw [← hN]
  have HNN := hideIt hN
  clear h1 h2 hn hN
  go_enter Tryz.func36, Tryz.ntmps36
  go_wp2
  go_loopw [13] (fun i wr => ∃ k : Nat, k ≤ n ∧ i = .int .i64 k ∧ wr.ownsRow N 28 2 (.slice (some ⟨N, 0, none⟩) n n) n (scells (ppart s n k)) ∧ Only (fun _ => False) w wr) (fun i _ => n - (intOf i).toNat)
  case atStart => exact ⟨0, Nat.zero_le _, rfl, START.out.1, START.out.2⟩
  case round =>
    obtain ⟨k, hk, rfl, hown, hon⟩ := hrel
    clear START hmk
    have HOWN := hideIt hown
    have HON := hideIt hon
    by_cases hlt : k < n
    · have dlt : decide ((k : Int) < (n : Int)) = true := by simp; omega
      have hkl : k < s.length := by rw [← HN.out]; exact hlt
      obtain ⟨b, off, cap', e1, hc0⟩ := (HB1.out.past hon).at k (by simpa using hkl)
      have ea : ao = some ⟨b, off, none⟩ := by simp at e1; exact e1.1
      subst ea
      clear e1
      obtain ⟨b2, off2, cap2', e2, hc2⟩ := (HB2.out.past hon).at k (by simpa using hkl)
      have ea : ao2 = some ⟨b2, off2, none⟩ := by simp at e2; exact e2.1
      subst ea
      clear e2
      rw [(pgetD s k).1] at hc0
      rw [(pgetD s k).2] at hc2
      have hz := ppart_len s k (by omega)
      rw [← HN.out] at hz
      have hat := scells_at (ppart s n k) k (by omega)
      have hg : ∀ i, i < n * 2 → wr.cell? ⟨N, i, none⟩ = (scells (ppart s n k))[i]? := fun i hi => hown.cellAt i hi
      have hy1 := hg (k * 2) (by omega)
      have hy2 := hg (k * 2 + 1) (by omega)
      rw [hat.1] at hy1
      rw [hat.2] at hy2
      have hfr : wr.frozen? ⟨N, k * 2, none⟩ = false := hown.frozenAt _
      have hfr2 : wr.frozen? ⟨N, k * 2 + 1, none⟩ = false := hown.frozenAt _
      have hstep : Hid (((scells (ppart s n k)).set (k * 2) (.int .i64 (s.getD k (0, 0)).1)).set (k * 2 + 1) (.int .u64 (s.getD k (0, 0)).2) = scells (ppart s n (k + 1))) := by
        simp only [Hid]; rw [scells_set _ _ _ _ (by omega)]
        have := ppart_step s k hkl
        rw [← HN.out] at this
        rw [← this]
      generalize (s.getD k (0, 0)).1 = x at *
      generalize (s.getD k (0, 0)).2 = z at *
      generalize ((ppart s n k).getD k (0, 0)).1 = y1 at *
      generalize ((ppart s n k).getD k (0, 0)).2 = y2 at *
      clear hown hon HB1 HB2 hkl hz hat hg
      go_wp2
      go_roundw
      case rel =>
        have e1 := (HOWN.out.stored (k * 2) (.int .i64 x)).1
        have e2 := (e1.stored (k * 2 + 1) (.int .u64 z)).1
        rw [hstep.out] at e2
        have hNw := HNN.out
        refine ⟨k + 1, by omega, by go_num, e2, ?_⟩
        exact (HON.out.setCell (p := ⟨N, k * 2, none⟩) (fun hb => by simp only at hb; omega) _).setCell (p := ⟨N, k * 2 + 1, none⟩) (fun hb => by simp only at hb; omega) _
      case measure => simp [intOf]; omega
    · obtain rfl : k = n := by omega
      have dlt : decide ((k : Int) < (k : Int)) = false := by simp
      have F : Hid (wr.ownsRow N 28 2 (.slice (some ⟨N, 0, none⟩) k k) k (scells s)) := by
        have h1 := HOWN.out
        have e1 := ppart_all s
        rw [← HN.out] at e1
        rw [e1] at h1
        exact h1
      clear hown hon
      go_wp2
      go_ret
      exact ⟨_, rfl, F.out, HON.out⟩
end Go.Proofs.YthapipgaohlgdabGreatDoor

/- Package chunk: Most; must, which panics with an error; how many samples there are. -/
namespace Go.Proofs.YthapipgaohlgdabGreatDoor
open Go.RowKit

/-- the panic with an error of so much -/
def pan (c : Int) : Ending := .panicked [{ v := .iface 30 (.int .i64 c), recovered := false }]

set_option maxHeartbeats 400000 in
theorem most_any (n : Int) (w : World) : Calls Tryz.prog 29 #[.int .i64 n] w fun e w' => e = .returned (.int .i64 (MOST n)) ∧ w = w' := by
  unfold MOST
  by_cases h : n < 0
  · rw [if_pos h]
    go_enter Tryz.func29, Tryz.ntmps29
    go_wp2
    all_goals (go_ret; exact ⟨ret_int (by omega), rfl⟩)
  · rw [if_neg h]
    go_enter Tryz.func29, Tryz.ntmps29
    go_wp2
    all_goals (go_ret; exact ⟨ret_int (by omega), rfl⟩)

theorem mustBeOK_ok (w : World) : Calls Tryz.prog 30 #[.int .i64 0] w fun e w' => e = .returned (.tuple #[]) ∧ w = w' := by
  go_enter Tryz.func30, Tryz.ntmps30
  go_wp2
  go_end0
  exact ⟨rfl, rfl⟩
theorem mustBeOK_no (c : Int) (w : World) (h : c ≠ 0) : Calls Tryz.prog 30 #[.int .i64 c] w fun e w' => e = pan c ∧ w = w' := by
  have h0 : (c != 0) = true := by simpa using h
  go_enter Tryz.func30, Tryz.ntmps30
  go_wp2
  exact ⟨rfl, rfl, rfl⟩

theorem must1_ok (v : Value) (w : World) : Calls Tryz.prog 24 #[v, .int .i64 0] w fun e w' => e = .returned v ∧ w = w' := by
  go_enter Tryz.func24, Tryz.ntmps24
  go_wp2_with fail
  refine (mustBeOK_ok w).mono ?_
  rintro e w' ⟨rfl, rfl⟩
  go_wp2
  go_ret
  exact ⟨rfl, rfl⟩
theorem must1_no (v : Value) (c : Int) (w : World) (h : c ≠ 0) : Calls Tryz.prog 24 #[v, .int .i64 c] w fun e w' => e = pan c ∧ w = w' := by
  go_enter Tryz.func24, Tryz.ntmps24
  go_wp2_with fail
  refine (mustBeOK_no c w h).mono ?_
  rintro e w' ⟨rfl, rfl⟩
  unfold pan
  go_wp2
  exact ⟨rfl, rfl, rfl⟩
theorem musts_ok (v : Value) (w : World) : Calls Tryz.prog 26 #[v, .int .i64 0] w fun e w' => e = .returned v ∧ w = w' := by
  go_enter Tryz.func26, Tryz.ntmps26
  go_wp2_with fail
  refine (mustBeOK_ok w).mono ?_
  rintro e w' ⟨rfl, rfl⟩
  go_wp2
  go_ret
  exact ⟨rfl, rfl⟩
theorem musts_no (v : Value) (c : Int) (w : World) (h : c ≠ 0) : Calls Tryz.prog 26 #[v, .int .i64 c] w fun e w' => e = pan c ∧ w = w' := by
  go_enter Tryz.func26, Tryz.ntmps26
  go_wp2_with fail
  refine (mustBeOK_no c w h).mono ?_
  rintro e w' ⟨rfl, rfl⟩
  unfold pan
  go_wp2
  exact ⟨rfl, rfl, rfl⟩
theorem mustu_ok (v : Value) (w : World) : Calls Tryz.prog 51 #[v, .int .i64 0] w fun e w' => e = .returned v ∧ w = w' := by
  go_enter Tryz.func51, Tryz.ntmps51
  go_wp2_with fail
  refine (mustBeOK_ok w).mono ?_
  rintro e w' ⟨rfl, rfl⟩
  go_wp2
  go_ret
  exact ⟨rfl, rfl⟩
theorem mustu_no (v : Value) (c : Int) (w : World) (h : c ≠ 0) : Calls Tryz.prog 51 #[v, .int .i64 c] w fun e w' => e = pan c ∧ w = w' := by
  go_enter Tryz.func51, Tryz.ntmps51
  go_wp2_with fail
  refine (mustBeOK_no c w h).mono ?_
  rintro e w' ⟨rfl, rfl⟩
  unfold pan
  go_wp2
  exact ⟨rfl, rfl, rfl⟩
theorem musti_ok (v : Value) (w : World) : Calls Tryz.prog 32 #[v, .int .i64 0] w fun e w' => e = .returned v ∧ w = w' := by
  go_enter Tryz.func32, Tryz.ntmps32
  go_wp2_with fail
  refine (mustBeOK_ok w).mono ?_
  rintro e w' ⟨rfl, rfl⟩
  go_wp2
  go_ret
  exact ⟨rfl, rfl⟩
theorem musti_no (v : Value) (c : Int) (w : World) (h : c ≠ 0) : Calls Tryz.prog 32 #[v, .int .i64 c] w fun e w' => e = pan c ∧ w = w' := by
  go_enter Tryz.func32, Tryz.ntmps32
  go_wp2_with fail
  refine (mustBeOK_no c w h).mono ?_
  rintro e w' ⟨rfl, rfl⟩
  unfold pan
  go_wp2
  exact ⟨rfl, rfl, rfl⟩
theorem mustv_ok (v : Value) (w : World) : Calls Tryz.prog 34 #[v, .int .i64 0] w fun e w' => e = .returned v ∧ w = w' := by
  go_enter Tryz.func34, Tryz.ntmps34
  go_wp2_with fail
  refine (mustBeOK_ok w).mono ?_
  rintro e w' ⟨rfl, rfl⟩
  go_wp2
  go_ret
  exact ⟨rfl, rfl⟩
theorem mustv_no (v : Value) (c : Int) (w : World) (h : c ≠ 0) : Calls Tryz.prog 34 #[v, .int .i64 c] w fun e w' => e = pan c ∧ w = w' := by
  go_enter Tryz.func34, Tryz.ntmps34
  go_wp2_with fail
  refine (mustBeOK_no c w h).mono ?_
  rintro e w' ⟨rfl, rfl⟩
  unfold pan
  go_wp2
  exact ⟨rfl, rfl, rfl⟩

/-! how many samples there are -/
set_option maxHeartbeats 400000 in
theorem readCount_err {w : World} {R : Nat} {v : Value} {ys : List Int} (h : CurAt 77 w R v ys) {s1 c : Int} {s2 : Nat} (hs : sVarint ys = (s1, s2, c)) (he : c ≠ 0) :
    Calls Tryz.prog 28 #[.pointer (some ⟨R, 0, none⟩)] w fun e w' => e = pan c ∧ Only (fun k => k = R) w w' := by
  have A := hideIt (varint_cur h)
  rw [hs] at A
  clear h hs
  go_enter Tryz.func28, Tryz.ntmps28
  go_wp2_with fail
  refine A.out.mono ?_
  rintro e w1 ⟨rfl, v2, _, _, o1⟩
  have O1 := hideIt o1
  clear o1 A
  go_wp2_with fail
  refine (mustu_no _ c w1 he).mono ?_
  rintro e w' ⟨rfl, rfl⟩
  unfold pan
  go_wp2
  exact ⟨rfl, rfl, O1.out⟩
set_option maxHeartbeats 400000 in
theorem readCount_long {w : World} {R : Nat} {v : Value} {ys : List Int} (h : CurAt 77 w R v ys) {n s2 : Nat} (hs : sVarint ys = ((n : Int), s2, 0)) (hn : 65536 < n) :
    Calls Tryz.prog 28 #[.pointer (some ⟨R, 0, none⟩)] w fun e w' => e = pan 4 ∧ Only (fun k => k = R) w w' := by
  have A := hideIt (varint_cur h)
  rw [hs] at A
  have d1 : decide (65536 < (n : Int)) = true := by simp; omega
  have d2 : decide (65536 < n) = true := by simp; omega
  clear h hs
  go_enter Tryz.func28, Tryz.ntmps28
  go_wp2_with fail
  refine A.out.mono ?_
  rintro e w1 ⟨rfl, v2, _, _, o1⟩
  have O1 := hideIt o1
  clear o1 A
  go_wp2_with fail
  refine (mustu_ok _ w1).mono ?_
  rintro e w' ⟨rfl, rfl⟩
  go_wp2
  exact ⟨rfl, rfl, O1.out⟩
set_option maxHeartbeats 400000 in
theorem readCount_ok {w : World} {R : Nat} {v : Value} {ys : List Int} (h : CurAt 77 w R v ys) {n s2 : Nat} (hs : sVarint ys = ((n : Int), s2, 0)) (hn : n ≤ 65536) :
    Calls Tryz.prog 28 #[.pointer (some ⟨R, 0, none⟩)] w fun e w' => e = .returned (.int .i64 n) ∧ ∃ v2, CurAt 77 w' R v2 (ys.drop s2) ∧ v2.ownBlock = v.ownBlock ∧ Only (fun k => k = R) w w' := by
  have A := hideIt (varint_cur h)
  rw [hs] at A
  have d1 : decide (65536 < (n : Int)) = false := by simp; omega
  have d2 : decide (65536 < n) = false := by simp; omega
  clear h hs
  go_enter Tryz.func28, Tryz.ntmps28
  go_wp2_with fail
  refine A.out.mono ?_
  rintro e w1 ⟨rfl, F1⟩
  have FF := hideIt F1
  clear F1 A
  go_wp2_with fail
  refine (mustu_ok _ w1).mono ?_
  rintro e w' ⟨rfl, rfl⟩
  go_wp2
  go_ret
  exact ⟨rfl, FF.out⟩
end Go.Proofs.YthapipgaohlgdabGreatDoor

/- Package forpack's ends, as a plain contract. -/
namespace Go.Proofs.YthapipgaohlgdabGreatDoor
open Go.RowKit Go.Shelf
attribute [local go_sem] Oper.semAt_some

set_option maxRecDepth 100000 in
set_option maxHeartbeats 1000000 in
theorem ends_nil_in (F : Fence) (n : Nat) (h3 : F.fn 81) (hro : F.round = none) (ao : Option Addr) (cap : Nat) (w : World) :
    CallsIn F n Tryz.prog 81 #[.slice ao 0 cap] w fun e W' => e = .returned (.tuple #[.int .u64 0, .int .u64 0]) ∧ Below w.heap.size w W' := by
  refine callsIn_of_wp_marks Tryz.func81 rfl h3 ?_ hro
  simp only [Tryz.ntmps81, List.size_toArray, List.length_cons, List.length_nil, Nat.reduceAdd, Nat.reduceSub, Array.replicate_succ, Array.replicate_zero, List.push_toArray, List.append_toArray, List.nil_append, List.cons_append]
  gi_wp2
  have bA := (Boxed.new w 26 (.int .u64 0)).alloc (.cells #[.int .u64 0] 26)
  have bC := Boxed.new (w.alloc (.cells #[.int .u64 0] 26)) 26 (.int .u64 0)
  rw [World.size_alloc] at bC
  have r1 := bA.cell
  have r3 := bC.cell
  refine ⟨.tuple #[.int .u64 0, .int .u64 0], ?_, rfl, ((Below.refl _ w).alloc (Nat.le_refl _) _).alloc (by simp) _⟩
  simp [results, Tryz.f81, go_sem, r1, r3]

theorem ends_bs (v : Value) (xs : List Int) (w : World) (h : Bs .u64 w v xs) (hl : xs.length ≤ 1000000000) :
    Calls Tryz.prog 81 #[v] w fun e w' => e = .returned (.tuple #[.int .u64 (lo xs), .int .u64 (hi xs)]) ∧ Only (fun _ => False) w w' := by
  obtain ⟨ao, cap, rfl, hc, hr⟩ := h
  refine ((callsIn_wide (n := 3)).1 ?_ : Calls Tryz.prog 81 #[.slice ao xs.length cap] w fun e w' => e = .returned (.tuple #[.int .u64 (lo xs), .int .u64 (hi xs)]) ∧ Below w.heap.size w w').mono fun e w' h => ⟨h.1, only_of_below h.2⟩
  cases xs with
  | nil => exact ends_nil_in _ _ trivial rfl ao cap w
  | cons x0 zs =>
    obtain ⟨b, off, rfl, hcell⟩ := hr (by simp)
    have c0 : w.cell? ⟨b, off, none⟩ = some (.int .u64 x0) := hcell 0 (by simp)
    by_cases h1 : cap = 1
    · subst h1
      have h0 : zs = [] := List.eq_nil_of_length_eq_zero (by rw [List.length_cons] at hc; omega)
      subst h0
      exact ends_one_in _ _ trivial trivial trivial rfl (by omega) b off x0 w c0
    · refine ends_in _ _ trivial trivial trivial rfl (by omega) b off cap zs x0 w c0 (by rw [List.length_cons] at hl; omega) (by rw [List.length_cons] at hc; omega) h1 ?_
      refine ⟨_, _, rfl, fun _ => ⟨b, off + 1, rfl, World.block_lt_of_cell? w _ c0, fun j hj => ?_⟩⟩
      have := hcell (j + 1) (by rw [List.length_cons]; omega)
      rw [show off + 1 + j = off + (j + 1) by omega, this]
      simp [List.getD_eq_getElem?_getD]
end Go.Proofs.YthapipgaohlgdabGreatDoor

/- slices.Concat of so many slices of bytes. -/
namespace Go.Proofs.YthapipgaohlgdabGreatDoor
open Go.RowKit

def cat (ls : Nat → List Int) (k : Nat) : List Int := (List.range k).flatMap ls
theorem cat_zero (ls : Nat → List Int) : cat ls 0 = [] := rfl
theorem cat_succ (ls : Nat → List Int) (k : Nat) : cat ls (k + 1) = cat ls k ++ ls k := by simp [cat, List.range_succ]
theorem cat_mono (ls : Nat → List Int) {k m : Nat} (h : k ≤ m) : (cat ls k).length ≤ (cat ls m).length := by
  induction m with
  | zero => rw [Nat.le_zero.1 h]; exact Nat.le_refl _
  | succ m ih =>
    rcases Nat.lt_or_ge k (m + 1) with h' | h'
    · have := ih (by omega); rw [cat_succ, List.length_append]; omega
    · rw [show k = m + 1 by omega]; exact Nat.le_refl _

set_option maxHeartbeats 1600000 in
set_option maxRecDepth 100000 in
/-- SO MANY SLICES OF BYTES, one behind the other: new memory. -/
theorem concat_n (B m : Nat) (vs : Nat → Value) (ls : Nat → List Int) (w : World) (hm : m ≤ 1000) (hm0 : 0 < m) (hc : ∀ i, i < m → w.cell? ⟨B, i, none⟩ = some (vs i)) (hb : ∀ i, i < m → Bs .u8 w (vs i) (ls i)) (nc : ∀ i, i < m → NoCap (vs i))
    (hp : 0 < (cat ls m).length) (hl : (cat ls m).length ≤ 140737488355328) :
    Calls Tryz.prog 12 #[.slice (some ⟨B, 0, none⟩) m m] w fun e w' => ∃ v', e = .returned v' ∧ w'.ownsRow w.heap.size 5 1 v' (cat ls m).length ((cat ls m).map (Value.int .u8)) ∧ Only (fun _ => False) w w' := by
  obtain ⟨i0, hi, hz0, hz1, hz2⟩ := info_parts Tryz.infoU8
  have HC := hideIt hc
  have HB := hideIt hb
  have NC := hideIt nc
  have HP := hideIt hp
  have HL := hideIt hl
  have hBw : B < w.heap.size := World.block_lt_of_cell? w _ (hc 0 hm0)
  clear hc hb nc hp hl
  go_enter Tryz.func12, Tryz.ntmps12
  go_wp2
  go_loop [3, 11] (fun s i => ∃ k : Nat, k ≤ m ∧ i = .int .i64 k ∧ s = .int .i64 (cat ls k).length) (fun _ i => m - (intOf i).toNat)
  case atStart => exact ⟨0, Nat.zero_le _, rfl, rfl⟩
  case round =>
    obtain ⟨k, hk, rfl, rfl⟩ := hrel
    by_cases hlt : k < m
    · obtain ⟨ao, cap, e1⟩ := (HB.out k hlt).len
      have c0 := HC.out k hlt
      rw [e1] at c0
      have hnext : Hid ((cat ls (k + 1)).length = (cat ls k).length + (ls k).length) := by simp only [Hid]; rw [cat_succ, List.length_append]
      have hle := cat_mono ls (show k + 1 ≤ m by omega)
      rw [hnext.out] at hle
      have HX := HL.out
      obtain ⟨s, hs⟩ : ∃ s, s = (cat ls k).length := ⟨_, rfl⟩
      obtain ⟨n, hn⟩ : ∃ n, n = (ls k).length := ⟨_, rfl⟩
      rw [← hs, ← hn] at hle hnext
      rw [← hn] at c0
      rw [← hs]
      have hb2 : s + n ≤ 140737488355328 := by omega
      have dlt : decide ((k : Int) < (m : Int)) = true := by simp; omega
      have d0 : decide ((s : Int) + n < 0) = false := by simp; omega
      clear e1 hs hn hle HX
      go_wp2
      go_round
      case rel => exact ⟨k + 1, by omega, by simp, by rw [hnext.out]; simp⟩
      case measure => simp [intOf]; omega
    · obtain rfl : k = m := by omega
      have dlt : decide ((k : Int) < (k : Int)) = false := by simp
      obtain ⟨s, hs⟩ : ∃ s, s = (cat ls k).length := ⟨_, rfl⟩
      have HS := hideIt hs
      rw [← hs]
      have hs0 : 0 < s := by rw [hs]; exact HP.out
      have hs1 : s ≤ 140737488355328 := by rw [hs]; exact HL.out
      have GN := hideIt (grow_nil s w hs0 hs1)
      clear hs
      go_wp2_with fail
      refine GN.out.mono ?_
      rintro e w2 ⟨G, rfl, hown, hon⟩
      have hbel : Below w.heap.size w w2 := hon.low (Nat.le_refl _)
      clear GN hon
      go_wp2
      go_loopw [6, 27] (fun o i wr => Below w.heap.size w wr ∧ ∃ j : Nat, j ≤ k ∧ i = .int .i64 j ∧ wr.ownsRow w.heap.size 5 1 o (cat ls j).length ((cat ls j).map (Value.int .u8))) (fun _ i _ => k - (intOf i).toNat)
      case atStart => exact ⟨hbel, 0, Nat.zero_le _, rfl, hown⟩
      case round =>
        obtain ⟨hbw, j, hj, rfl, hown1⟩ := hrel
        clear hbel hown
        have hsz := hbw.size
        by_cases hlt : j < k
        · obtain ⟨ao, cap, e1⟩ := (HB.out j hlt).len
          have c0 := (hbw.cell (p := ⟨B, j, none⟩) hBw).trans (HC.out j hlt)
          have HBJ := hideIt ((HB.out j hlt).later hbw)
          have NCJ := hideIt (NC.out j hlt)
          rw [e1] at c0 HBJ NCJ
          have hnext : Hid (cat ls (j + 1) = cat ls j ++ ls j) := cat_succ ls j
          have hle := cat_mono ls (show j + 1 ≤ k by omega)
          rw [hnext.out, List.length_append] at hle
          have HX := HL.out
          obtain ⟨n, hn⟩ : ∃ n, n = (ls j).length := ⟨_, rfl⟩
          rw [← hn] at c0 HBJ NCJ
          have dlt2 : decide ((j : Int) < (k : Int)) = true := by simp; omega
          clear e1 hn
          have hle2 := hideIt hle
          clear hle HX
          go_wp2_with (at_builtin; refine wpList_append_bs _ rfl _ _ _ rfl w.heap.size 5 i0 (.int .u8 0) 1 Tryz.underlying29 hi hz0 hz1 hz2 rfl _ _ _ rfl hown1 .u8 _ (ls j) rfl HBJ.out NCJ.out ?c3 ?c4 hsz ?_)
          case c3 => have := hle2.out; have := HL.out; unfold maxLen; omega
          case c4 => have := hle2.out; have := HL.out; omega
          intro v' w3 hown2 hgrow _ _
          have hb3 : Below w.heap.size w w3 := hbw.grown hgrow hsz (fun q hq => (hown1.lt q hq).1)
          rw [← List.map_append, ← List.length_append, ← hnext.out] at hown2
          clear hown1 hgrow
          go_wp2
          go_roundw
          case rel => exact ⟨hb3, j + 1, by omega, by simp, hown2⟩
          case measure => simp [intOf]; omega
        · obtain rfl : j = k := by omega
          have dlt2 : decide ((j : Int) < (j : Int)) = false := by simp
          go_wp2
          go_ret
          exact ⟨_, rfl, hown1, only_of_below hbw⟩
end Go.Proofs.YthapipgaohlgdabGreatDoor

/- Package forpack's Pack. -/
namespace Go.Proofs.YthapipgaohlgdabGreatDoor
open Go.RowKit

set_option maxHeartbeats 400000 in
set_option maxRecDepth 100000 in
theorem pack_long (v : Value) (xs : List Int) (w : World) (h : Bs .u64 w v xs) (hl : 65536 < xs.length) :
    Calls Tryz.prog 62 #[v] w fun e w' => e = .returned (.tuple #[.slice none 0 0, .int .i64 4]) ∧ w = w' := by
  obtain ⟨ao, cap, rfl⟩ := h.len
  clear h
  have d0 : decide (65536 < (xs.length : Int)) = true := by simp; omega
  generalize xs.length = m at *
  clear hl
  go_enter Tryz.func62, Tryz.ntmps62
  go_wp2
  go_ret2
  exact ⟨rfl, rfl⟩

theorem cat_three (x y z : List Int) : cat (fun i => if i = 0 then x else if i = 1 then y else z) 3 = x ++ y ++ z := by
  rw [cat_succ, cat_succ, cat_succ, cat_zero]; simp

set_option maxHeartbeats 1600000 in
set_option maxRecDepth 100000 in
theorem pack_bs (v : Value) (xs : List Int) (w : World) (h : Bs .u64 w v xs) (hu : U64 xs) (hl : xs.length ≤ 65536) :
    Calls Tryz.prog 62 #[v] w fun e w' => ∃ v', e = .returned (.tuple #[v', .int .i64 0]) ∧ w'.ownsRow w.heap.size 5 1 v' (PK xs).length ((PK xs).map (Value.int .u8)) ∧ Only (fun _ => False) w w' := by
  have A := hideIt (ends_bs v xs w h (by omega))
  have HBS := hideIt h
  have HU := hideIt hu
  obtain ⟨l1, l2, l3⟩ := lohi hu
  have HW := hideIt (wd_le hu)
  have hwd : Hid (wd xs = wid (hi xs - lo xs).toNat) := rfl
  obtain ⟨ao, cap, rfl⟩ := h.len
  have d0 : decide (65536 < (xs.length : Int)) = false := by simp; omega
  obtain ⟨m, hm⟩ : ∃ m, m = xs.length := ⟨_, rfl⟩
  rw [← hm] at A HBS hl d0 ⊢
  have HM := hideIt hm
  clear h hu hm
  obtain ⟨a, ha⟩ : ∃ a, a = lo xs := ⟨_, rfl⟩
  obtain ⟨c, hc⟩ : ∃ c, c = hi xs := ⟨_, rfl⟩
  rw [← ha, ← hc] at A hwd l2
  rw [← ha] at l1
  rw [← hc] at l3
  have HA := hideIt ha
  have HCC := hideIt hc
  clear ha hc
  go_enter Tryz.func62, Tryz.ntmps62
  go_wp2_with fail
  refine A.out.mono ?_
  rintro e w1 ⟨rfl, o1⟩
  clear A
  have HO := hideIt o1
  have BW := hideIt (width_any (c - a) w1 (by omega) (by omega))
  clear o1
  go_wp2_with fail
  refine BW.out.mono ?_
  rintro e w1' ⟨rfl, rfl⟩
  clear BW
  rw [← hwd.out]
  have hq := HW.out
  obtain ⟨q, hqd⟩ : ∃ q, q = wd xs := ⟨_, rfl⟩
  rw [← hqd] at hq ⊢
  have HQ := hideIt hqd
  clear hqd hwd HW
  have hq2 : (q : Int) ≤ 64 := by omega
  have W0 := hideIt (WrAt.new (T := 112) (E := 5) w1)
  have HB0 : Hid (Below w1.heap.size w1 (w1.alloc (.cells #[.slice none 0 0, .int .i64 0] 112))) := (Below.refl _ _).alloc (Nat.le_refl _) _
  have HSZ := HO.out.size
  go_wp2
  go_loopw [24] (fun i wr => ∃ k : Nat, k ≤ m ∧ i = .int .i64 k ∧ Below w1.heap.size w1 wr ∧ ∃ vw, WrAt 112 5 wr (w1.heap.size + 1) w1.heap.size vw (ups a q (xs.take k))) (fun i _ => m - (intOf i).toNat)
  case atStart => exact ⟨0, Nat.zero_le _, rfl, HB0.out, _, W0.out⟩
  case round =>
    obtain ⟨k, hk, rfl, hbw, vw, hwr⟩ := hrel
    clear W0 HB0
    have HBW := hideIt hbw
    have HWR := hideIt hwr
    by_cases hlt : k < m
    · have hkx : k < xs.length := by rw [← HM.out]; exact hlt
      have hb1 := (HBS.out.keep HO.out (fun _ _ f => f)).later hbw
      obtain ⟨b, off, cap', e1, c0⟩ := hb1.at k hkx
      simp only [Value.slice.injEq] at e1
      obtain ⟨rfl, e2, rfl⟩ := e1
      clear e2
      have hxm : xs.getD k 0 ∈ xs := by rw [List.getD_eq_getElem?_getD, List.getElem?_eq_getElem hkx]; simp
      obtain ⟨x0, x1⟩ := HU.out _ hxm
      have x2 := lo_le xs _ hxm
      rw [← HA.out] at x2
      have x3 := wd_fits xs _ hxm
      rw [← HA.out, ← HQ.out] at x3
      have htk : Hid (ups a q (xs.take (k + 1)) = ups a q (xs.take k) ++ bitsOf (xs.getD k 0 - a).toNat q) := by
        simp only [Hid]; rw [take_snoc xs k hkx, ups_snoc]
      have hln : (ups a q (xs.take k)).length ≤ 1000000000 := by
        rw [ups_length, List.length_take]
        have : min k xs.length * q ≤ 65536 * 64 := Nat.mul_le_mul (by omega) hq
        omega
      obtain ⟨x, hx⟩ : ∃ x, x = xs.getD k 0 := ⟨_, rfl⟩
      rw [← hx] at c0 x0 x1 x2 x3 htk
      have PU := hideIt (put_wr hwr (x - a) q (by omega) hq2 (by omega) (by omega) (by omega) hln)
      have dlt : decide ((k : Int) < (m : Int)) = true := by simp; omega
      clear hb1 hx hxm x3 hln hwr hbw hkx
      go_wp2_with fail
      refine PU.out.mono ?_
      rintro e w2 ⟨rfl, vw2, hw2, on2, st2⟩
      have HB2 := hideIt (HBW.out.trans (on2.below (B := w1.heap.size) HBW.out.size (HWR.out.foot_ge (Nat.le_refl _))))
      have HW2 := hideIt hw2
      clear PU hw2 on2 st2
      go_wp2
      go_roundw
      case rel => exact ⟨k + 1, by omega, by simp, HB2.out, vw2, by rw [htk.out]; simpa using HW2.out⟩
      case measure => simp [intOf]; omega
    · obtain rfl : k = m := by omega
      have dlt : decide ((k : Int) < (k : Int)) = false := by simp
      have AP := hideIt (append_any (.slice none 0 0) [] a wr (Bs.nil _ _) NoCap.nil (by simp) l1 (by omega))
      clear hwr hbw
      go_wp2_with fail
      refine AP.out.mono ?_
      rintro e w3 ⟨v3, rfl, own3, on3⟩
      clear AP
      rw [List.nil_append] at own3
      have hq256 : (q : Int) < 256 := by omega
      have HG10 := hideIt (gs_le10 (v := a.toNat) (by omega))
      have W3 := HWR.out.keep ((on3.trans ((Only.refl (fun _ => False) w3).alloc (.cells #[.int .u8 q] 5)) (fun _ _ f => f))) (fun f => f) (fun _ _ f => f)
      have hup : Hid (ups a q (xs.take k) = up xs) := by
        simp only [Hid]; rw [HM.out, List.take_length, up, ← HA.out, ← HQ.out]
      rw [hup.out] at W3
      have hlen : (up xs).length ≤ 65536 * 64 := by rw [up_length, ← HQ.out, ← HM.out]; exact Nat.mul_le_mul hl hq
      have BY := hideIt (bytes_wr W3 (by omega))
      have O3 := hideIt on3
      have W3' := hideIt own3
      have HLEN := hideIt hlen
      clear on3 own3 W3 hlen
      go_wp2_with fail
      refine BY.out.mono ?_
      rintro e w4 ⟨v4, rfl, own4, on4⟩
      have own3 := on4.own (((Only.refl (fun _ => False) w3).alloc (.cells #[.int .u8 q] 5)).own W3'.out (fun _ _ f => f)) (fun _ _ f => f)
      clear BY
      have b1 : Bs .u8 w4 (.slice (some ⟨w3.heap.size, 0, none⟩) 1 1) [(q : Int)] := (Bs.lit .u8 w3 5 [(q : Int)]).keep on4 (fun _ _ f => f)
      have hbl : Below w4.heap.size w4 (w4.alloc (.cells #[v3, .slice (some ⟨w3.heap.size, 0, none⟩) 1 1, v4] 29)) := (Below.refl _ _).alloc (Nat.le_refl _) _
      have CC := hideIt (concat_n w4.heap.size 3 (fun i => if i = 0 then v3 else if i = 1 then .slice (some ⟨w3.heap.size, 0, none⟩) 1 1 else v4) (fun i => if i = 0 then gs a.toNat else if i = 1 then [(q : Int)] else bytesI (up xs)) (w4.alloc (.cells #[v3, .slice (some ⟨w3.heap.size, 0, none⟩) 1 1, v4] 29)) (by omega) (by omega)
        (by intro i hi
            have : i = 0 ∨ i = 1 ∨ i = 2 := by omega
            rcases this with rfl | rfl | rfl <;> go_cell)
        (by intro i hi
            have : i = 0 ∨ i = 1 ∨ i = 2 := by omega
            rcases this with rfl | rfl | rfl
            · exact (Bs.of_own own3).later hbl
            · exact b1.later hbl
            · exact (Bs.of_own own4).later hbl)
        (by intro i hi
            have : i = 0 ∨ i = 1 ∨ i = 2 := by omega
            rcases this with rfl | rfl | rfl
            · exact NoCap.of_own own3
            · exact NoCap.some _ _ _
            · exact NoCap.of_own own4)
        (by rw [cat_three]; simp; omega)
        (by rw [cat_three, List.length_append, List.length_append, bytesI_length, nb]
            have := HLEN.out; have := HG10.out; simp; omega))
      rw [cat_three] at CC
      have O4 := hideIt on4
      obtain ⟨f3, cp3, hv3⟩ := (Bs.of_own own3).len
      obtain ⟨f4, cp4, hv4⟩ := (Bs.of_own own4).len
      subst hv3 hv4
      clear own3 own4 on4 b1 hbl
      go_wp2_with fail
      refine CC.out.mono ?_
      rintro e w5 ⟨v5, rfl, own5, on5⟩
      have hpk : gs a.toNat ++ [(q : Int)] ++ bytesI (up xs) = PK xs := by unfold PK; rw [← HA.out, ← HQ.out]; simp
      rw [hpk] at own5
      have s4 := O4.out.size
      have s3 := O3.out.size
      have sr := HBW.out.size
      simp only [World.size_alloc] at own5 s4
      have own6 := hideIt (own_low own5 (show w.heap.size ≤ w4.heap.size + 1 by omega))
      have bl : Hid (Below w.heap.size w w5) := ((((HO.out.low (Nat.le_refl _)).trans (HBW.out.mono HSZ)).trans (O3.out.low (by omega))).trans ((((Below.refl _ w3).alloc (by omega) _)).trans (O4.out.low (by simp; omega)))).trans (((Below.refl _ w4).alloc (by omega) _).trans (on5.low (by simp; omega)))
      clear own5 on5 CC hpk
      obtain ⟨f5, cp5, hv5⟩ := (Bs.of_own own6.out).len
      subst hv5
      go_wp2
      go_ret2
      exact ⟨_, rfl, own6.out, only_of_below bl.out⟩
end Go.Proofs.YthapipgaohlgdabGreatDoor

/- Contracts of package delta: the closures, and what is replaced. -/
namespace Go.Proofs.YthapipgaohlgdabGreatDoor
open Go.RowKit

set_option maxHeartbeats 400000 in
set_option maxRecDepth 100000 in
theorem dclo (c : Nat) (x a : Int) (w : World) (hc : w.cell? ⟨c, 0, none⟩ = some (.int .i64 a)) (hf : w.frozen? ⟨c, 0, none⟩ = false) :
    Calls Tryz.prog 80 #[.int .i64 x, .pointer (some ⟨c, 0, none⟩)] w fun e w' => e = .returned (.int .i64 (wrap64 (x - a))) ∧ w' = w.setCell ⟨c, 0, none⟩ (.int .i64 x) := by
  go_enter Tryz.func80, Tryz.ntmps80
  go_wp2
  go_ret
  exact ⟨rfl, rfl⟩

set_option maxHeartbeats 400000 in
set_option maxRecDepth 100000 in
theorem sclo (c : Nat) (x a : Int) (w : World) (hc : w.cell? ⟨c, 0, none⟩ = some (.int .i64 a)) (hf : w.frozen? ⟨c, 0, none⟩ = false) :
    Calls Tryz.prog 119 #[.int .i64 x, .pointer (some ⟨c, 0, none⟩)] w fun e w' => e = .returned (.int .i64 (wrap64 (a + x))) ∧ w' = w.setCell ⟨c, 0, none⟩ (.int .i64 (wrap64 (a + x))) := by
  go_enter Tryz.func119, Tryz.ntmps119
  go_wp2
  go_ret
  exact ⟨rfl, rfl⟩

/-! replace -/
theorem dif_round {f : Int → List Int → List Int} {st : Int → Int → Int × Int} (hf : ∀ a x t, f a (x :: t) = (st a x).1 :: f (st a x).2 t) (xs : List Int) (j : Nat) (a : Int) (hj : j < xs.length) :
    (xs.set j (st a (xs.getD j 0)).1).take (j + 1) ++ f (st a (xs.getD j 0)).2 ((xs.set j (st a (xs.getD j 0)).1).drop (j + 1)) = xs.take j ++ f a (xs.drop j) := by
  have e1 : xs.drop j = xs.getD j 0 :: xs.drop (j + 1) := by
    rw [List.getD_eq_getElem?_getD, List.getElem?_eq_getElem hj]
    exact List.drop_eq_getElem_cons hj
  rw [e1, hf, List.take_add_one, List.take_set_of_le (Nat.le_refl _), List.drop_set_of_lt (Nat.lt_succ_self _), List.getElem?_set_self hj]
  simp

set_option maxHeartbeats 800000 in
set_option maxRecDepth 100000 in
/-- THE NUMBERS OF A LIST BEHIND THE FIRST st ARE REPLACED, with dif. -/
theorem rep_d (lo c st n : Nat) (a0 : Int) (v : Value) (xs : List Int) (w : World) (hn : xs.length = n) (hown : w.ownsRow lo 3 1 v n (xs.map (Value.int .i64)))
    (hc : w.cell? ⟨c, 0, none⟩ = some (.int .i64 a0)) (hf : w.frozen? ⟨c, 0, none⟩ = false) (hne : ∀ k, v.ownBlock = some k → k ≠ c) (hl : n ≤ 1000000) (hs : st ≤ 1000000) :
    Calls Tryz.prog 60 #[v, .int .i64 st, .func (.func 80) #[] #[.pointer (some ⟨c, 0, none⟩)]] w fun e w' => e = .returned (.tuple #[]) ∧
      w'.ownsRow lo 3 1 v n ((xs.take st ++ dif a0 (xs.drop st)).map (Value.int .i64)) ∧ Only (fun k => v.ownBlock = some k ∨ k = c) w w' := by
  have hform : v = .slice none 0 0 ∧ n = 0 ∨ ∃ g cap, v = .slice (some ⟨g, 0, none⟩) n cap := by
    rcases hown.2 with h | ⟨g, cap, cur, h, _⟩
    · exact .inl h
    · exact .inr ⟨g, cap, h⟩
  obtain ⟨fin, hfin⟩ : ∃ fin, fin = xs.take st ++ dif a0 (xs.drop st) := ⟨_, rfl⟩
  rw [← hfin]
  rcases hform with ⟨rfl, rfl⟩ | ⟨g, cap, rfl⟩
  · have hx : xs = [] := List.eq_nil_of_length_eq_zero hn
    subst hx
    have hfin' : fin = [] := by rw [hfin]; simp [dif]
    subst hfin'
    have H := hideIt hown
    clear hown hfin hc hf hne hn
    go_enter Tryz.func60, Tryz.ntmps60
    go_wp2
    go_loop [6] (fun i => i = .int .i64 st) (fun _ => 0)
    case atStart => rfl
    case round =>
      subst hrel
      go_wp2
      go_end0
      exact ⟨rfl, H.out, Only.refl _ _⟩
  · have hgc : g ≠ c := hne g rfl
    have START := hideIt (And.intro hown (And.intro hc hf))
    have HF := hideIt hfin
    have HN := hideIt hn
    clear hown hc hf hfin hne hn
    go_enter Tryz.func60, Tryz.ntmps60
    go_wp2
    go_loopw [6] (fun i wr => ∃ (j : Nat) (ys : List Int) (a : Int), j ≤ 1000000 ∧ i = .int .i64 j ∧ ys.length = n ∧ wr.ownsRow lo 3 1 (.slice (some ⟨g, 0, none⟩) n cap) n (ys.map (Value.int .i64)) ∧
        wr.cell? ⟨c, 0, none⟩ = some (.int .i64 a) ∧ wr.frozen? ⟨c, 0, none⟩ = false ∧ fin = ys.take j ++ dif a (ys.drop j) ∧ Only (fun k => k = g ∨ k = c) w wr) (fun i _ => n - (intOf i).toNat)
    case atStart => exact ⟨st, xs, a0, hs, rfl, HN.out, START.out.1, START.out.2.1, START.out.2.2, HF.out, Only.refl _ _⟩
    case round =>
      obtain ⟨j, ys, a, hj, rfl, hyl, hown, hc, hf, hfin, hon⟩ := hrel
      clear START HF HN
      by_cases hlt : j < n
      · have hcell : wr.cell? ⟨g, j, none⟩ = some (.int .i64 (ys.getD j 0)) := by
          rw [hown.cellAt j (by omega), List.getElem?_map, List.getElem?_eq_getElem (by omega), List.getD_eq_getElem?_getD, List.getElem?_eq_getElem (by omega)]
          rfl
        have hrnd := dif_round (f := dif) (st := fun a x => (wrap64 (x - a), x)) (fun _ _ _ => rfl) ys j a (by omega)
        obtain ⟨y, hy⟩ : ∃ y, y = ys.getD j 0 := ⟨_, rfl⟩
        rw [← hy] at hcell hrnd
        have A := hideIt (dclo c y a wr hc hf)
        have hcell2 : (wr.setCell ⟨c, 0, none⟩ (.int .i64 (y))).cell? ⟨g, j, none⟩ = some (.int .i64 y) := by
          rw [World.cell?_setCell_other (h := by intro h; exact hgc (by cases h; rfl))]; exact hcell
        have hfr2 : (wr.setCell ⟨c, 0, none⟩ (.int .i64 (y))).frozen? ⟨g, j, none⟩ = false := by
          rw [World.frozen?_setCell]; exact hown.frozenAt _
        have hon2 : Only (fun k => k = g ∨ k = c) w (wr.setCell ⟨c, 0, none⟩ (.int .i64 (y))) := hon.setCell (fun _ => .inr rfl) _
        have hown2 : (wr.setCell ⟨c, 0, none⟩ (.int .i64 (y))).ownsRow lo 3 1 (.slice (some ⟨g, 0, none⟩) n cap) n (ys.map (Value.int .i64)) :=
          ((Only.refl (fun k => k = c) wr).setCell (p := ⟨c, 0, none⟩) (fun _ => rfl) _).own hown (fun k hk => by simp [Value.ownBlock] at hk; omega)
        have hc2 : (wr.setCell ⟨c, 0, none⟩ (.int .i64 (y))).cell? ⟨c, 0, none⟩ = some (.int .i64 (y)) := World.cell?_setCell_same _ _ _ hc
        have hf2 : (wr.setCell ⟨c, 0, none⟩ (.int .i64 (y))).frozen? ⟨c, 0, none⟩ = false := by rw [World.frozen?_setCell]; exact hf
        have H := hideIt (And.intro hon2 (And.intro hown2 (And.intro hc2 (And.intro hf2 (And.intro hfin hrnd)))))
        have i0 : (0 : Int) ≤ (j : Int) := by omega
        have i1 : (j : Int) < (n : Int) := by omega
        clear hown hc hf hfin hon hon2 hown2 hc2 hf2 hrnd
        have HY := hideIt hy
        have HYL := hideIt hyl
        clear hy hyl
        go_wp2_with fail
        refine A.out.mono ?_
        rintro e w1 ⟨rfl, rfl⟩
        clear A
        go_wp2
        go_roundw
        case rel =>
          refine ⟨j + 1, ys.set j (wrap64 (y - a)), y, by omega, by go_num, by rw [List.length_set]; exact HYL.out, ?_, ?_, ?_, ?_, ?_⟩
          · have h1 := (H.out.2.1.stored j (.int .i64 (wrap64 (y - a)))).1
            rw [← List.map_set] at h1
            exact h1
          · rw [World.cell?_setCell_other (h := by intro h; exact hgc (by cases h; rfl))]; exact H.out.2.2.1
          · rw [World.frozen?_setCell]; exact H.out.2.2.2.1
          · rw [H.out.2.2.2.2.1]; exact H.out.2.2.2.2.2.symm
          · exact H.out.1.setCell (fun _ => .inl rfl) _
        case measure => simp [intOf]; omega
      · have e1 : fin = ys := by
          rw [hfin, List.drop_of_length_le (by omega), List.take_of_length_le (by omega)]; simp [dif]
        subst e1
        have H := hideIt (And.intro hown hon)
        clear hown hon hc hf hfin
        have HYL := hideIt hyl
        clear hyl
        go_wp2
        go_end0
        exact ⟨rfl, H.out.1, H.out.2.mono (fun i _ h => h.imp (fun e => by rw [e]; rfl) id)⟩

set_option maxHeartbeats 800000 in
set_option maxRecDepth 100000 in
/-- THE NUMBERS OF A LIST BEHIND THE FIRST st ARE REPLACED, with sm. -/
theorem rep_s (lo c st n : Nat) (a0 : Int) (v : Value) (xs : List Int) (w : World) (hn : xs.length = n) (hown : w.ownsRow lo 3 1 v n (xs.map (Value.int .i64)))
    (hc : w.cell? ⟨c, 0, none⟩ = some (.int .i64 a0)) (hf : w.frozen? ⟨c, 0, none⟩ = false) (hne : ∀ k, v.ownBlock = some k → k ≠ c) (hl : n ≤ 1000000) (hs : st ≤ 1000000) :
    Calls Tryz.prog 60 #[v, .int .i64 st, .func (.func 119) #[] #[.pointer (some ⟨c, 0, none⟩)]] w fun e w' => e = .returned (.tuple #[]) ∧
      w'.ownsRow lo 3 1 v n ((xs.take st ++ sm a0 (xs.drop st)).map (Value.int .i64)) ∧ Only (fun k => v.ownBlock = some k ∨ k = c) w w' := by
  have hform : v = .slice none 0 0 ∧ n = 0 ∨ ∃ g cap, v = .slice (some ⟨g, 0, none⟩) n cap := by
    rcases hown.2 with h | ⟨g, cap, cur, h, _⟩
    · exact .inl h
    · exact .inr ⟨g, cap, h⟩
  obtain ⟨fin, hfin⟩ : ∃ fin, fin = xs.take st ++ sm a0 (xs.drop st) := ⟨_, rfl⟩
  rw [← hfin]
  rcases hform with ⟨rfl, rfl⟩ | ⟨g, cap, rfl⟩
  · have hx : xs = [] := List.eq_nil_of_length_eq_zero hn
    subst hx
    have hfin' : fin = [] := by rw [hfin]; simp [sm]
    subst hfin'
    have H := hideIt hown
    clear hown hfin hc hf hne hn
    go_enter Tryz.func60, Tryz.ntmps60
    go_wp2
    go_loop [6] (fun i => i = .int .i64 st) (fun _ => 0)
    case atStart => rfl
    case round =>
      subst hrel
      go_wp2
      go_end0
      exact ⟨rfl, H.out, Only.refl _ _⟩
  · have hgc : g ≠ c := hne g rfl
    have START := hideIt (And.intro hown (And.intro hc hf))
    have HF := hideIt hfin
    have HN := hideIt hn
    clear hown hc hf hfin hne hn
    go_enter Tryz.func60, Tryz.ntmps60
    go_wp2
    go_loopw [6] (fun i wr => ∃ (j : Nat) (ys : List Int) (a : Int), j ≤ 1000000 ∧ i = .int .i64 j ∧ ys.length = n ∧ wr.ownsRow lo 3 1 (.slice (some ⟨g, 0, none⟩) n cap) n (ys.map (Value.int .i64)) ∧
        wr.cell? ⟨c, 0, none⟩ = some (.int .i64 a) ∧ wr.frozen? ⟨c, 0, none⟩ = false ∧ fin = ys.take j ++ sm a (ys.drop j) ∧ Only (fun k => k = g ∨ k = c) w wr) (fun i _ => n - (intOf i).toNat)
    case atStart => exact ⟨st, xs, a0, hs, rfl, HN.out, START.out.1, START.out.2.1, START.out.2.2, HF.out, Only.refl _ _⟩
    case round =>
      obtain ⟨j, ys, a, hj, rfl, hyl, hown, hc, hf, hfin, hon⟩ := hrel
      clear START HF HN
      by_cases hlt : j < n
      · have hcell : wr.cell? ⟨g, j, none⟩ = some (.int .i64 (ys.getD j 0)) := by
          rw [hown.cellAt j (by omega), List.getElem?_map, List.getElem?_eq_getElem (by omega), List.getD_eq_getElem?_getD, List.getElem?_eq_getElem (by omega)]
          rfl
        have hrnd := dif_round (f := sm) (st := fun a x => (wrap64 (a + x), wrap64 (a + x))) (fun _ _ _ => rfl) ys j a (by omega)
        obtain ⟨y, hy⟩ : ∃ y, y = ys.getD j 0 := ⟨_, rfl⟩
        rw [← hy] at hcell hrnd
        have A := hideIt (sclo c y a wr hc hf)
        have hcell2 : (wr.setCell ⟨c, 0, none⟩ (.int .i64 (wrap64 (a + y)))).cell? ⟨g, j, none⟩ = some (.int .i64 y) := by
          rw [World.cell?_setCell_other (h := by intro h; exact hgc (by cases h; rfl))]; exact hcell
        have hfr2 : (wr.setCell ⟨c, 0, none⟩ (.int .i64 (wrap64 (a + y)))).frozen? ⟨g, j, none⟩ = false := by
          rw [World.frozen?_setCell]; exact hown.frozenAt _
        have hon2 : Only (fun k => k = g ∨ k = c) w (wr.setCell ⟨c, 0, none⟩ (.int .i64 (wrap64 (a + y)))) := hon.setCell (fun _ => .inr rfl) _
        have hown2 : (wr.setCell ⟨c, 0, none⟩ (.int .i64 (wrap64 (a + y)))).ownsRow lo 3 1 (.slice (some ⟨g, 0, none⟩) n cap) n (ys.map (Value.int .i64)) :=
          ((Only.refl (fun k => k = c) wr).setCell (p := ⟨c, 0, none⟩) (fun _ => rfl) _).own hown (fun k hk => by simp [Value.ownBlock] at hk; omega)
        have hc2 : (wr.setCell ⟨c, 0, none⟩ (.int .i64 (wrap64 (a + y)))).cell? ⟨c, 0, none⟩ = some (.int .i64 (wrap64 (a + y))) := World.cell?_setCell_same _ _ _ hc
        have hf2 : (wr.setCell ⟨c, 0, none⟩ (.int .i64 (wrap64 (a + y)))).frozen? ⟨c, 0, none⟩ = false := by rw [World.frozen?_setCell]; exact hf
        have H := hideIt (And.intro hon2 (And.intro hown2 (And.intro hc2 (And.intro hf2 (And.intro hfin hrnd)))))
        have i0 : (0 : Int) ≤ (j : Int) := by omega
        have i1 : (j : Int) < (n : Int) := by omega
        clear hown hc hf hfin hon hon2 hown2 hc2 hf2 hrnd
        have HY := hideIt hy
        have HYL := hideIt hyl
        clear hy hyl
        go_wp2_with fail
        refine A.out.mono ?_
        rintro e w1 ⟨rfl, rfl⟩
        clear A
        go_wp2
        go_roundw
        case rel =>
          refine ⟨j + 1, ys.set j (wrap64 (a + y)), wrap64 (a + y), by omega, by go_num, by rw [List.length_set]; exact HYL.out, ?_, ?_, ?_, ?_, ?_⟩
          · have h1 := (H.out.2.1.stored j (.int .i64 (wrap64 (a + y)))).1
            rw [← List.map_set] at h1
            exact h1
          · rw [World.cell?_setCell_other (h := by intro h; exact hgc (by cases h; rfl))]; exact H.out.2.2.1
          · rw [World.frozen?_setCell]; exact H.out.2.2.2.1
          · rw [H.out.2.2.2.2.1]; exact H.out.2.2.2.2.2.symm
          · exact H.out.1.setCell (fun _ => .inl rfl) _
        case measure => simp [intOf]; omega
      · have e1 : fin = ys := by
          rw [hfin, List.drop_of_length_le (by omega), List.take_of_length_le (by omega)]; simp [sm]
        subst e1
        have H := hideIt (And.intro hown hon)
        clear hown hon hc hf hfin
        have HYL := hideIt hyl
        clear hyl
        go_wp2
        go_end0
        exact ⟨rfl, H.out.1, H.out.2.mono (fun i _ h => h.imp (fun e => by rw [e]; rfl) id)⟩
end Go.Proofs.YthapipgaohlgdabGreatDoor
