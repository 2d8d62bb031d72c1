/- Several texts in one: Ka, Kp, It. -/
import Derived.Test.YthapipgaohlgdabGreatDoorG9
import Derived.Test.YthapipgaohlgdabGreatDoorG5
import Derived.BigRegion
import Derived.WalkLawsBesides
import Derived.RangeFuncBox
import Derived.RangeFuncNested
import Derived.RangeFuncBound
import Derived.RangeFuncCalls
import Derived.RangeFuncLeaves
import Derived.Shelf.Abstract
import Derived.Shelf.RegionOpen
import Derived.WalkKit
import Derived.OwnWalkIn
import Derived.TacticsInMore
import Derived.LoopNIn
import Derived.LoopIn
import Derived.Test.YthapipgaohlgdabGreatDoorProg
import Derived.Test.YthapipgaohlgdabGreatDoorG1

/- Package chunk: samples apart, and together again. -/
namespace Go.Proofs.YthapipgaohlgdabGreatDoor
open Go.RowKit

def prt (l : List Int) (n k : Nat) : List Int := l.take k ++ List.replicate (n - k) 0
theorem prt_len (l : List Int) (k : Nat) (hk : k ≤ l.length) : (prt l l.length k).length = l.length := by
  simp [prt]; omega
theorem prt_zero (kd : IntKind) (l : List Int) (n : Nat) : (prt l n 0).map (Value.int kd) = (madeCells #[Value.int kd 0] (n * 1)).toList := by
  simp only [prt, List.take_zero, List.nil_append, Nat.sub_zero, List.map_replicate]
  unfold madeCells
  apply List.ext_getElem
  · simp
  · intro i h1 h2
    simp [Nat.mod_one]
theorem prt_all (l : List Int) : prt l l.length l.length = l := by simp [prt]
theorem prt_step (l : List Int) (k : Nat) (h : k < l.length) : (prt l l.length k).set k (l.getD k 0) = prt l l.length (k + 1) := by
  unfold prt
  obtain ⟨m, hm⟩ : ∃ m, l.length - k = m + 1 := ⟨l.length - k - 1, by omega⟩
  rw [hm, show l.length - (k + 1) = m by omega, List.replicate_succ, List.set_append_right _ _ (by simp; omega)]
  rw [List.take_succ_eq_append_getElem h]
  have e : k - (l.take k).length = 0 := by simp; omega
  rw [e, List.set_cons_zero, List.append_assoc]
  simp [List.getD_eq_getElem?_getD, List.getElem?_eq_getElem h]
theorem pgetD (s : List (Int × Int)) (k : Nat) : ((s.map Prod.fst).getD k 0 = (s.getD k (0, 0)).1) ∧ ((s.map Prod.snd).getD k 0 = (s.getD k (0, 0)).2) := by
  rw [List.getD_eq_getElem?_getD, List.getD_eq_getElem?_getD, List.getD_eq_getElem?_getD, List.getElem?_map, List.getElem?_map]
  cases s[k]? <;> exact ⟨rfl, rfl⟩

set_option maxHeartbeats 1600000 in
set_option maxRecDepth 100000 in
/-- TIMES AND PATTERNS APART: two new lists. -/
theorem apart_any (v : Value) (s : List (Int × Int)) (w : World) (h : Sps w v s) (hl : s.length ≤ 65536) :
    Calls Tryz.prog 9 #[v] w fun e w' => ∃ u1 u2, e = .returned (.tuple #[u1, u2]) ∧ Bs .i64 w' u1 (s.map Prod.fst) ∧ Bs .u64 w' u2 (s.map Prod.snd) ∧ Only (fun _ => False) w w' := by
  obtain ⟨i0, hi, hz0, hz1, hz2⟩ := info_parts Tryz.infoI64
  obtain ⟨j0, hj, gz0, gz1, gz2⟩ := info_parts Tryz.infoU64
  have HB := hideIt h
  obtain ⟨ao, cap, rfl⟩ := h.len
  obtain ⟨n, hn⟩ : ∃ n, n = s.length := ⟨_, rfl⟩
  rw [← hn] at hl HB
  rw [← hn]
  have HN := hideIt hn
  obtain ⟨wm, hmk, hown0, hgr⟩ := run_make_full (P := Tryz.prog) w w.heap.size 38 3 i0 (.int .i64 0) 1 Tryz.underlying38 hi hz0 hz1 .i64 .i64 n (by rw [hz2]; omega) (by unfold maxLen; omega) (Nat.le_refl _)
  obtain ⟨wk, hmk2, hown1, hgr1⟩ := run_make_full (P := Tryz.prog) wm wm.heap.size 39 26 j0 (.int .u64 0) 1 Tryz.underlying39 hj gz0 gz1 .i64 .i64 n (by rw [gz2]; omega) (by unfold maxLen; omega) (Nat.le_refl _)
  have START : Hid (wk.ownsRow w.heap.size 3 1 (.slice (some ⟨w.heap.size, 0, none⟩) n n) n ((prt (s.map Prod.fst) n 0).map (Value.int .i64)) ∧ wk.ownsRow wm.heap.size 26 1 (.slice (some ⟨wm.heap.size, 0, none⟩) n n) n ((prt (s.map Prod.snd) n 0).map (Value.int .u64)) ∧ Only (fun _ => False) w wk ∧ w.heap.size < wm.heap.size) := by
    rw [show (Value.int .u64 0).cells = #[Value.int .u64 0] from rfl] at hown1
    rw [show (Value.int .i64 0).cells = #[Value.int .i64 0] from rfl] at hown0
    rw [prt_zero, prt_zero]
    have o1 : Only (fun _ => False) w wm := (Only.refl _ _).grown hgr (fun _ _ e => by cases e)
    have o2 : Only (fun _ => False) wm wk := (Only.refl _ _).grown hgr1 (fun _ _ e => by cases e)
    exact ⟨o2.own hown0 (fun _ _ f => f), hown1, o1.same o2, (hown0.lt _ rfl).2⟩
  clear hown0 hgr hown1 hgr1
  obtain ⟨N, hN⟩ : ∃ N, N = w.heap.size := ⟨_, rfl⟩
  obtain ⟨M, hM⟩ : ∃ M, M = wm.heap.size := ⟨_, rfl⟩
  rw [← hN] at hmk START
  rw [← hM] at hmk2 START
  have HNN := hideIt hN
  have HMM := hideIt hM
  clear h hn hN hM
  go_enter Tryz.func9, Tryz.ntmps9
  go_wp2
  go_loopw [16] (fun i wr => ∃ k : Nat, k ≤ n ∧ i = .int .i64 k ∧ wr.ownsRow N 3 1 (.slice (some ⟨N, 0, none⟩) n n) n ((prt (s.map Prod.fst) n k).map (Value.int .i64)) ∧ wr.ownsRow M 26 1 (.slice (some ⟨M, 0, none⟩) n n) n ((prt (s.map Prod.snd) n k).map (Value.int .u64)) ∧ Only (fun _ => False) w wr) (fun i _ => n - (intOf i).toNat)
  case atStart => exact ⟨0, Nat.zero_le _, rfl, START.out.1, START.out.2.1, START.out.2.2.1⟩
  case round =>
    obtain ⟨k, hk, rfl, hown, hown2, hon⟩ := hrel
    have HNM : N < M := START.out.2.2.2
    clear START hmk hmk2
    have HOWN := hideIt hown
    have HOWN2 := hideIt hown2
    have HON := hideIt hon
    by_cases hlt : k < n
    · have dlt : decide ((k : Int) < (n : Int)) = true := by simp; omega
      have dlt2 : (k : Int) < (n : Int) := by omega
      have hkl : k < s.length := by rw [← HN.out]; exact hlt
      obtain ⟨b, off, cap', e1, hc0, hc1⟩ := (HB.out.past hon).at k hkl
      have ea : ao = some ⟨b, off, none⟩ := by simp at e1; exact e1.1
      subst ea
      clear e1
      have hcell : ∃ y, wr.cell? ⟨N, k, none⟩ = some (.int .i64 y) := by
        have hz := prt_len (s.map Prod.fst) k (by simp; omega)
        rw [List.length_map, ← HN.out] at hz
        refine ⟨(prt (s.map Prod.fst) n k).getD k 0, ?_⟩
        rw [hown.cellAt k (by omega), List.getElem?_map, List.getElem?_eq_getElem (by rw [hz]; omega), List.getD_eq_getElem?_getD, List.getElem?_eq_getElem (by rw [hz]; omega)]
        rfl
      have hcell2 : ∃ y, wr.cell? ⟨M, k, none⟩ = some (.int .u64 y) := by
        have hz := prt_len (s.map Prod.snd) k (by simp; omega)
        rw [List.length_map, ← HN.out] at hz
        refine ⟨(prt (s.map Prod.snd) n k).getD k 0, ?_⟩
        rw [hown2.cellAt k (by omega), List.getElem?_map, List.getElem?_eq_getElem (by rw [hz]; omega), List.getD_eq_getElem?_getD, List.getElem?_eq_getElem (by rw [hz]; omega)]
        rfl
      obtain ⟨y, hy⟩ := hcell
      obtain ⟨y2, hy2⟩ := hcell2
      have hfr : wr.frozen? ⟨N, k, none⟩ = false := hown.frozenAt _
      have hfr2 : wr.frozen? ⟨M, k, none⟩ = false := hown2.frozenAt _
      have hNlt : N < wr.heap.size := (hown.lt _ rfl).2
      have hMlt : M < wr.heap.size := (hown2.lt _ rfl).2
      have hstep : Hid (((prt (s.map Prod.fst) n k).map (Value.int .i64)).set k (.int .i64 (s.getD k (0, 0)).1) = (prt (s.map Prod.fst) n (k + 1)).map (Value.int .i64)) := by
        simp only [Hid]; rw [← List.map_set, ← (pgetD s k).1]
        have := prt_step (s.map Prod.fst) k (by simpa using hkl)
        rw [List.length_map, ← HN.out] at this
        rw [this]
      have hstep2 : Hid (((prt (s.map Prod.snd) n k).map (Value.int .u64)).set k (.int .u64 (s.getD k (0, 0)).2) = (prt (s.map Prod.snd) n (k + 1)).map (Value.int .u64)) := by
        simp only [Hid]; rw [← List.map_set, ← (pgetD s k).2]
        have := prt_step (s.map Prod.snd) k (by simpa using hkl)
        rw [List.length_map, ← HN.out] at this
        rw [this]
      generalize (s.getD k (0, 0)).1 = x at *
      generalize (s.getD k (0, 0)).2 = z at *
      have ne1 : ¬ N = M := by omega
      have ne2 : ¬ M = N := by omega
      have ne3 : ¬ N = wr.heap.size := by omega
      have ne4 : ¬ M = wr.heap.size := by omega
      have ne5 : ¬ wr.heap.size = N := by omega
      have ne6 : ¬ wr.heap.size = M := by omega
      have hk0 : (0 : Int) ≤ (k : Int) := by omega
      clear hown hown2 hon HB hkl
      go_wp2
      go_region
      go_wp2
      go_roundw
      case rel =>
        have e1 := (HOWN.out.stored k (.int .i64 x)).1
        rw [hstep.out] at e1
        have o1 : Only (fun b => b = N) wr (wr.setCell ⟨N, k, none⟩ (.int .i64 x)) := (Only.refl (fun b => b = N) wr).setCell (p := ⟨N, k, none⟩) (fun _ => rfl) _
        have e2 := ((o1.own HOWN2.out (fun b hb e => by cases hb; exact ne2 e)).stored k (.int .u64 z)).1
        rw [hstep2.out] at e2
        have o2 : Only (fun b => b = M) (wr.setCell ⟨N, k, none⟩ (.int .i64 x)) ((wr.setCell ⟨N, k, none⟩ (.int .i64 x)).setCell ⟨M, k, none⟩ (.int .u64 z)) := (Only.refl (fun b => b = M) _).setCell (p := ⟨M, k, none⟩) (fun _ => rfl) _
        have o3 : Only (fun _ => False) ((wr.setCell ⟨N, k, none⟩ (.int .i64 x)).setCell ⟨M, k, none⟩ (.int .u64 z)) ((((wr.setCell ⟨N, k, none⟩ (.int .i64 x)).setCell ⟨M, k, none⟩ (.int .u64 z)).alloc (Obj.cells #[Value.int IntKind.i64 x, Value.int IntKind.u64 z] 28)).drew) := ((Only.refl _ _).alloc _).drew
        have hNw := HNN.out
        have hMN := HNM
        refine ⟨k + 1, by omega, by go_num, o3.own (o2.own e1 (fun b hb e => by cases hb; exact ne1 e)) (fun _ _ f => f), o3.own e2 (fun _ _ f => f), ?_⟩
        exact ((HON.out.trans o1 (fun b hb e => by omega)).trans o2 (fun b hb e => by omega)).trans o3 (fun _ _ f => f)
      case measure => simp [intOf]; omega
    · obtain rfl : k = n := by omega
      have dlt : decide ((k : Int) < (k : Int)) = false := by simp
      have F : Hid (Bs .i64 wr (.slice (some ⟨N, 0, none⟩) k k) (s.map Prod.fst) ∧ Bs .u64 wr (.slice (some ⟨M, 0, none⟩) k k) (s.map Prod.snd)) := by
        have h1 := HOWN.out
        have h2 := HOWN2.out
        have e1 := prt_all (s.map Prod.fst)
        have e2 := prt_all (s.map Prod.snd)
        rw [List.length_map, ← HN.out] at e1 e2
        rw [e1] at h1
        rw [e2] at h2
        refine ⟨Bs.of_own (lo := N) (E := 3) ?_, Bs.of_own (lo := M) (E := 26) ?_⟩
        · rw [List.length_map, ← HN.out]; exact h1
        · rw [List.length_map, ← HN.out]; exact h2
      clear hown hown2 hon
      go_wp2
      go_ret2
      exact ⟨_, _, rfl, F.out.1, F.out.2, HON.out⟩

/-! together -/
def scells (s : List (Int × Int)) : List Value := s.flatMap fun p => [.int .i64 p.1, .int .u64 p.2]
theorem scells_cons (p : Int × Int) (s : List (Int × Int)) : scells (p :: s) = .int .i64 p.1 :: .int .u64 p.2 :: scells s := rfl
theorem scells_len (s : List (Int × Int)) : (scells s).length = s.length * 2 := by
  induction s with
  | nil => rfl
  | cons p s ih => rw [scells_cons, List.length_cons, List.length_cons, List.length_cons, ih]; omega
theorem scells_at (s : List (Int × Int)) : ∀ (j : Nat), j < s.length → (scells s)[j * 2]? = some (.int .i64 (s.getD j (0, 0)).1) ∧ (scells s)[j * 2 + 1]? = some (.int .u64 (s.getD j (0, 0)).2) := by
  induction s with
  | nil => intro j hj; simp at hj
  | cons p s ih =>
    intro j hj
    cases j with
    | zero => exact ⟨rfl, rfl⟩
    | succ j =>
      have := ih j (by simpa using hj)
      rw [scells_cons, show (j + 1) * 2 = j * 2 + 1 + 1 by omega]
      simpa using this
theorem scells_set (s : List (Int × Int)) : ∀ (j : Nat) (a b : Int), j < s.length → ((scells s).set (j * 2) (.int .i64 a)).set (j * 2 + 1) (.int .u64 b) = scells (s.set j (a, b)) := by
  induction s with
  | nil => intro j a b hj; simp at hj
  | cons p s ih =>
    intro j a b hj
    cases j with
    | zero => rfl
    | succ j =>
      have := ih j a b (by simpa using hj)
      rw [scells_cons, show (j + 1) * 2 = j * 2 + 1 + 1 by omega, List.set_cons_succ, List.set_cons_succ, List.set_cons_succ, List.set_cons_succ, List.set_cons_succ, scells_cons, this]
theorem Sps.of_own {w : World} {lo : Nat} {E : TypeId} {v : Value} {s : List (Int × Int)} (h : w.ownsRow lo E 2 v s.length (scells s)) : Sps w v s := by
  rcases h.2 with ⟨rfl, hn⟩ | ⟨g, cap, cur, rfl, _, hg, hnc, _, hcs, htk⟩
  · have : s = [] := List.eq_nil_of_length_eq_zero hn
    subst this
    exact Sps.nil w
  · refine ⟨_, cap, rfl, hnc, fun _ => ⟨g, 0, rfl, fun j hj => ?_⟩⟩
    have hc : ∀ i, i < s.length * 2 → w.cell? ⟨g, 0 + i, none⟩ = (scells s)[i]? := fun i hi => by
      rw [← htk, List.getElem?_take_of_lt hi]
      simp [World.cell?, hg]
    obtain ⟨h0, h1⟩ := scells_at s j hj
    exact ⟨by rw [hc _ (by omega)]; exact h0, by rw [Nat.add_assoc, hc _ (by omega)]; exact h1⟩
def ppart (s : List (Int × Int)) (n k : Nat) : List (Int × Int) := s.take k ++ List.replicate (n - k) (0, 0)
theorem ppart_len (s : List (Int × Int)) (k : Nat) (hk : k ≤ s.length) : (ppart s s.length k).length = s.length := by
  simp [ppart]; omega
theorem ppart_zero (s : List (Int × Int)) (n : Nat) : scells (ppart s n 0) = (madeCells #[Value.int .i64 0, Value.int .u64 0] (n * 2)).toList := by
  simp only [ppart, List.take_zero, List.nil_append, Nat.sub_zero]
  unfold madeCells
  apply List.ext_getElem?
  intro i
  have hl := scells_len (List.replicate n ((0 : Int), (0 : Int)))
  rw [List.length_replicate] at hl
  by_cases h : i < n * 2
  · obtain ⟨h0, h1⟩ := scells_at (List.replicate n ((0 : Int), (0 : Int))) (i / 2) (by simp; omega)
    have hg : (List.replicate n ((0 : Int), (0 : Int))).getD (i / 2) (0, 0) = (0, 0) := by
      rw [List.getD_eq_getElem?_getD, List.getElem?_replicate]; split <;> rfl
    rw [hg] at h0 h1
    rcases Nat.mod_two_eq_zero_or_one i with hm | hm
    · rw [show i / 2 * 2 = i by omega] at h0
      rw [h0]; simp [h, hm]
    · rw [show i / 2 * 2 + 1 = i by omega] at h1
      rw [h1]; simp [h, hm]
  · rw [List.getElem?_eq_none (by omega), List.getElem?_eq_none (by simp; omega)]
theorem ppart_all (s : List (Int × Int)) : ppart s s.length s.length = s := by simp [ppart]
theorem ppart_step (s : List (Int × Int)) (k : Nat) (h : k < s.length) : (ppart s s.length k).set k (s.getD k (0, 0)) = ppart s s.length (k + 1) := by
  unfold ppart
  obtain ⟨m, hm⟩ : ∃ m, s.length - k = m + 1 := ⟨s.length - k - 1, by omega⟩
  rw [hm, show s.length - (k + 1) = m by omega, List.replicate_succ, List.set_append_right _ _ (by simp; omega)]
  rw [List.take_succ_eq_append_getElem h]
  have e : k - (s.take k).length = 0 := by simp; omega
  rw [e, List.set_cons_zero, List.append_assoc]
  simp [List.getD_eq_getElem?_getD, List.getElem?_eq_getElem h]
set_option maxRecDepth 100000 in
theorem Tryz.infoSm : (Tryz.prog.info? 28).map (fun i => (i.zero, i.size, i.bytes)) = some (some (.agg #[.int .i64 0, .int .u64 0]), 2, 16) := by kernel_rfl

set_option maxHeartbeats 1600000 in
set_option maxRecDepth 100000 in
/-- TIMES AND PATTERNS TOGETHER: a new list. -/
theorem together_any (v1 v2 : Value) (s : List (Int × Int)) (w : World) (h1 : Bs .i64 w v1 (s.map Prod.fst)) (h2 : Bs .u64 w v2 (s.map Prod.snd)) (hl : s.length ≤ 65536) :
    Calls Tryz.prog 36 #[v1, v2] w fun e w' => ∃ u, e = .returned u ∧ w'.ownsRow w.heap.size 28 2 u s.length (scells s) ∧ Only (fun _ => False) w w' := by
  obtain ⟨i0, hi, hz0, hz1, hz2⟩ := info_parts Tryz.infoSm
  have HB1 := hideIt h1
  have HB2 := hideIt h2
  obtain ⟨ao, cap, rfl⟩ := h1.len
  obtain ⟨ao2, cap2, rfl⟩ := h2.len
  obtain ⟨n, hn⟩ : ∃ n, n = s.length := ⟨_, rfl⟩
  rw [List.length_map, ← hn] at HB1 HB2
  rw [List.length_map, List.length_map, ← hn]
  rw [← hn] at hl
  have HN := hideIt hn
  obtain ⟨wm, hmk, hown0, hgr⟩ := run_make_full (P := Tryz.prog) w w.heap.size 22 28 i0 (.agg #[.int .i64 0, .int .u64 0]) 2 Tryz.underlying22 hi hz0 hz1 .i64 .i64 n (by rw [hz2]; omega) (by unfold maxLen; omega) (Nat.le_refl _)
  have START : Hid (wm.ownsRow w.heap.size 28 2 (.slice (some ⟨w.heap.size, 0, none⟩) n n) n (scells (ppart s n 0)) ∧ Only (fun _ => False) w wm) := by
    rw [ppart_zero]
    exact ⟨hown0, (Only.refl _ _).grown hgr (fun _ _ e => by cases e)⟩
  clear hown0 hgr
  obtain ⟨N, hN⟩ : ∃ N, N = w.heap.size := ⟨_, rfl⟩
  rw [← hN] at hmk START
  rw [← hN]
  have HNN := hideIt hN
  clear h1 h2 hn hN
  go_enter Tryz.func36, Tryz.ntmps36
  go_wp2
  go_loopw [13] (fun i wr => ∃ k : Nat, k ≤ n ∧ i = .int .i64 k ∧ wr.ownsRow N 28 2 (.slice (some ⟨N, 0, none⟩) n n) n (scells (ppart s n k)) ∧ Only (fun _ => False) w wr) (fun i _ => n - (intOf i).toNat)
  case atStart => exact ⟨0, Nat.zero_le _, rfl, START.out.1, START.out.2⟩
  case round =>
    obtain ⟨k, hk, rfl, hown, hon⟩ := hrel
    clear START hmk
    have HOWN := hideIt hown
    have HON := hideIt hon
    by_cases hlt : k < n
    · have dlt : decide ((k : Int) < (n : Int)) = true := by simp; omega
      have hkl : k < s.length := by rw [← HN.out]; exact hlt
      obtain ⟨b, off, cap', e1, hc0⟩ := (HB1.out.past hon).at k (by simpa using hkl)
      have ea : ao = some ⟨b, off, none⟩ := by simp at e1; exact e1.1
      subst ea
      clear e1
      obtain ⟨b2, off2, cap2', e2, hc2⟩ := (HB2.out.past hon).at k (by simpa using hkl)
      have ea : ao2 = some ⟨b2, off2, none⟩ := by simp at e2; exact e2.1
      subst ea
      clear e2
      rw [(pgetD s k).1] at hc0
      rw [(pgetD s k).2] at hc2
      have hz := ppart_len s k (by omega)
      rw [← HN.out] at hz
      have hat := scells_at (ppart s n k) k (by omega)
      have hg : ∀ i, i < n * 2 → wr.cell? ⟨N, i, none⟩ = (scells (ppart s n k))[i]? := fun i hi => hown.cellAt i hi
      have hy1 := hg (k * 2) (by omega)
      have hy2 := hg (k * 2 + 1) (by omega)
      rw [hat.1] at hy1
      rw [hat.2] at hy2
      have hfr : wr.frozen? ⟨N, k * 2, none⟩ = false := hown.frozenAt _
      have hfr2 : wr.frozen? ⟨N, k * 2 + 1, none⟩ = false := hown.frozenAt _
      have hstep : Hid (((scells (ppart s n k)).set (k * 2) (.int .i64 (s.getD k (0, 0)).1)).set (k * 2 + 1) (.int .u64 (s.getD k (0, 0)).2) = scells (ppart s n (k + 1))) := by
        simp only [Hid]; rw [scells_set _ _ _ _ (by omega)]
        have := ppart_step s k hkl
        rw [← HN.out] at this
        rw [← this]
      generalize (s.getD k (0, 0)).1 = x at *
      generalize (s.getD k (0, 0)).2 = z at *
      generalize ((ppart s n k).getD k (0, 0)).1 = y1 at *
      generalize ((ppart s n k).getD k (0, 0)).2 = y2 at *
      clear hown hon HB1 HB2 hkl hz hat hg
      go_wp2
      go_roundw
      case rel =>
        have e1 := (HOWN.out.stored (k * 2) (.int .i64 x)).1
        have e2 := (e1.stored (k * 2 + 1) (.int .u64 z)).1
        rw [hstep.out] at e2
        have hNw := HNN.out
        refine ⟨k + 1, by omega, by go_num, e2, ?_⟩
        exact (HON.out.setCell (p := ⟨N, k * 2, none⟩) (fun hb => by simp only at hb; omega) _).setCell (p := ⟨N, k * 2 + 1, none⟩) (fun hb => by simp only at hb; omega) _
      case measure => simp [intOf]; omega
    · obtain rfl : k = n := by omega
      have dlt : decide ((k : Int) < (k : Int)) = false := by simp
      have F : Hid (wr.ownsRow N 28 2 (.slice (some ⟨N, 0, none⟩) k k) k (scells s)) := by
        have h1 := HOWN.out
        have e1 := ppart_all s
        rw [← HN.out] at e1
        rw [e1] at h1
        exact h1
      clear hown hon
      go_wp2
      go_ret
      exact ⟨_, rfl, F.out, HON.out⟩
end Go.Proofs.YthapipgaohlgdabGreatDoor

/- Package chunk: Most; must, which panics with an error; how many samples there are. -/
namespace Go.Proofs.YthapipgaohlgdabGreatDoor
open Go.RowKit

/-- the panic with an error of so much -/
def pan (c : Int) : Ending := .panicked [{ v := .iface 30 (.int .i64 c), recovered := false }]

set_option maxHeartbeats 400000 in
theorem most_any (n : Int) (w : World) : Calls Tryz.prog 29 #[.int .i64 n] w fun e w' => e = .returned (.int .i64 (MOST n)) ∧ w = w' := by
  unfold MOST
  by_cases h : n < 0
  · rw [if_pos h]
    go_enter Tryz.func29, Tryz.ntmps29
    go_wp2
    all_goals (go_ret; exact ⟨ret_int (by omega), rfl⟩)
  · rw [if_neg h]
    go_enter Tryz.func29, Tryz.ntmps29
    go_wp2
    all_goals (go_ret; exact ⟨ret_int (by omega), rfl⟩)

theorem mustBeOK_ok (w : World) : Calls Tryz.prog 30 #[.int .i64 0] w fun e w' => e = .returned (.tuple #[]) ∧ w = w' := by
  go_enter Tryz.func30, Tryz.ntmps30
  go_wp2
  go_end0
  exact ⟨rfl, rfl⟩
theorem mustBeOK_no (c : Int) (w : World) (h : c ≠ 0) : Calls Tryz.prog 30 #[.int .i64 c] w fun e w' => e = pan c ∧ w = w' := by
  have h0 : (c != 0) = true := by simpa using h
  go_enter Tryz.func30, Tryz.ntmps30
  go_wp2
  exact ⟨rfl, rfl, rfl⟩

theorem must1_ok (v : Value) (w : World) : Calls Tryz.prog 24 #[v, .int .i64 0] w fun e w' => e = .returned v ∧ w = w' := by
  go_enter Tryz.func24, Tryz.ntmps24
  go_wp2_with fail
  refine (mustBeOK_ok w).mono ?_
  rintro e w' ⟨rfl, rfl⟩
  go_wp2
  go_ret
  exact ⟨rfl, rfl⟩
theorem must1_no (v : Value) (c : Int) (w : World) (h : c ≠ 0) : Calls Tryz.prog 24 #[v, .int .i64 c] w fun e w' => e = pan c ∧ w = w' := by
  go_enter Tryz.func24, Tryz.ntmps24
  go_wp2_with fail
  refine (mustBeOK_no c w h).mono ?_
  rintro e w' ⟨rfl, rfl⟩
  unfold pan
  go_wp2
  exact ⟨rfl, rfl, rfl⟩
theorem musts_ok (v : Value) (w : World) : Calls Tryz.prog 26 #[v, .int .i64 0] w fun e w' => e = .returned v ∧ w = w' := by
  go_enter Tryz.func26, Tryz.ntmps26
  go_wp2_with fail
  refine (mustBeOK_ok w).mono ?_
  rintro e w' ⟨rfl, rfl⟩
  go_wp2
  go_ret
  exact ⟨rfl, rfl⟩
theorem musts_no (v : Value) (c : Int) (w : World) (h : c ≠ 0) : Calls Tryz.prog 26 #[v, .int .i64 c] w fun e w' => e = pan c ∧ w = w' := by
  go_enter Tryz.func26, Tryz.ntmps26
  go_wp2_with fail
  refine (mustBeOK_no c w h).mono ?_
  rintro e w' ⟨rfl, rfl⟩
  unfold pan
  go_wp2
  exact ⟨rfl, rfl, rfl⟩
theorem mustu_ok (v : Value) (w : World) : Calls Tryz.prog 51 #[v, .int .i64 0] w fun e w' => e = .returned v ∧ w = w' := by
  go_enter Tryz.func51, Tryz.ntmps51
  go_wp2_with fail
  refine (mustBeOK_ok w).mono ?_
  rintro e w' ⟨rfl, rfl⟩
  go_wp2
  go_ret
  exact ⟨rfl, rfl⟩
theorem mustu_no (v : Value) (c : Int) (w : World) (h : c ≠ 0) : Calls Tryz.prog 51 #[v, .int .i64 c] w fun e w' => e = pan c ∧ w = w' := by
  go_enter Tryz.func51, Tryz.ntmps51
  go_wp2_with fail
  refine (mustBeOK_no c w h).mono ?_
  rintro e w' ⟨rfl, rfl⟩
  unfold pan
  go_wp2
  exact ⟨rfl, rfl, rfl⟩
theorem musti_ok (v : Value) (w : World) : Calls Tryz.prog 32 #[v, .int .i64 0] w fun e w' => e = .returned v ∧ w = w' := by
  go_enter Tryz.func32, Tryz.ntmps32
  go_wp2_with fail
  refine (mustBeOK_ok w).mono ?_
  rintro e w' ⟨rfl, rfl⟩
  go_wp2
  go_ret
  exact ⟨rfl, rfl⟩
theorem musti_no (v : Value) (c : Int) (w : World) (h : c ≠ 0) : Calls Tryz.prog 32 #[v, .int .i64 c] w fun e w' => e = pan c ∧ w = w' := by
  go_enter Tryz.func32, Tryz.ntmps32
  go_wp2_with fail
  refine (mustBeOK_no c w h).mono ?_
  rintro e w' ⟨rfl, rfl⟩
  unfold pan
  go_wp2
  exact ⟨rfl, rfl, rfl⟩
theorem mustv_ok (v : Value) (w : World) : Calls Tryz.prog 34 #[v, .int .i64 0] w fun e w' => e = .returned v ∧ w = w' := by
  go_enter Tryz.func34, Tryz.ntmps34
  go_wp2_with fail
  refine (mustBeOK_ok w).mono ?_
  rintro e w' ⟨rfl, rfl⟩
  go_wp2
  go_ret
  exact ⟨rfl, rfl⟩
theorem mustv_no (v : Value) (c : Int) (w : World) (h : c ≠ 0) : Calls Tryz.prog 34 #[v, .int .i64 c] w fun e w' => e = pan c ∧ w = w' := by
  go_enter Tryz.func34, Tryz.ntmps34
  go_wp2_with fail
  refine (mustBeOK_no c w h).mono ?_
  rintro e w' ⟨rfl, rfl⟩
  unfold pan
  go_wp2
  exact ⟨rfl, rfl, rfl⟩

/-! how many samples there are -/
set_option maxHeartbeats 400000 in
theorem readCount_err {w : World} {R : Nat} {v : Value} {ys : List Int} (h : CurAt 77 w R v ys) {s1 c : Int} {s2 : Nat} (hs : sVarint ys = (s1, s2, c)) (he : c ≠ 0) :
    Calls Tryz.prog 28 #[.pointer (some ⟨R, 0, none⟩)] w fun e w' => e = pan c ∧ Only (fun k => k = R) w w' := by
  have A := hideIt (varint_cur h)
  rw [hs] at A
  clear h hs
  go_enter Tryz.func28, Tryz.ntmps28
  go_wp2_with fail
  refine A.out.mono ?_
  rintro e w1 ⟨rfl, v2, _, _, o1⟩
  have O1 := hideIt o1
  clear o1 A
  go_wp2_with fail
  refine (mustu_no _ c w1 he).mono ?_
  rintro e w' ⟨rfl, rfl⟩
  unfold pan
  go_wp2
  exact ⟨rfl, rfl, O1.out⟩
set_option maxHeartbeats 400000 in
theorem readCount_long {w : World} {R : Nat} {v : Value} {ys : List Int} (h : CurAt 77 w R v ys) {n s2 : Nat} (hs : sVarint ys = ((n : Int), s2, 0)) (hn : 65536 < n) :
    Calls Tryz.prog 28 #[.pointer (some ⟨R, 0, none⟩)] w fun e w' => e = pan 4 ∧ Only (fun k => k = R) w w' := by
  have A := hideIt (varint_cur h)
  rw [hs] at A
  have d1 : decide (65536 < (n : Int)) = true := by simp; omega
  have d2 : decide (65536 < n) = true := by simp; omega
  clear h hs
  go_enter Tryz.func28, Tryz.ntmps28
  go_wp2_with fail
  refine A.out.mono ?_
  rintro e w1 ⟨rfl, v2, _, _, o1⟩
  have O1 := hideIt o1
  clear o1 A
  go_wp2_with fail
  refine (mustu_ok _ w1).mono ?_
  rintro e w' ⟨rfl, rfl⟩
  go_wp2
  exact ⟨rfl, rfl, O1.out⟩
set_option maxHeartbeats 400000 in
theorem readCount_ok {w : World} {R : Nat} {v : Value} {ys : List Int} (h : CurAt 77 w R v ys) {n s2 : Nat} (hs : sVarint ys = ((n : Int), s2, 0)) (hn : n ≤ 65536) :
    Calls Tryz.prog 28 #[.pointer (some ⟨R, 0, none⟩)] w fun e w' => e = .returned (.int .i64 n) ∧ ∃ v2, CurAt 77 w' R v2 (ys.drop s2) ∧ v2.ownBlock = v.ownBlock ∧ Only (fun k => k = R) w w' := by
  have A := hideIt (varint_cur h)
  rw [hs] at A
  have d1 : decide (65536 < (n : Int)) = false := by simp; omega
  have d2 : decide (65536 < n) = false := by simp; omega
  clear h hs
  go_enter Tryz.func28, Tryz.ntmps28
  go_wp2_with fail
  refine A.out.mono ?_
  rintro e w1 ⟨rfl, F1⟩
  have FF := hideIt F1
  clear F1 A
  go_wp2_with fail
  refine (mustu_ok _ w1).mono ?_
  rintro e w' ⟨rfl, rfl⟩
  go_wp2
  go_ret
  exact ⟨rfl, FF.out⟩
end Go.Proofs.YthapipgaohlgdabGreatDoor

/- slices.Values of numbers, and what a range over it is handed: all of them, in their order. -/
namespace Go.Proofs.YthapipgaohlgdabGreatDoor
open Go.RowKit Go.Shelf
attribute [local go_sem] Oper.semAt_some

/-- the first k of what came, by their places -/
def upto {α : Type} (f : Nat → α) (k : Nat) : List α := (List.range k).map f
theorem upto_succ {α : Type} (f : Nat → α) (k : Nat) : upto f (k + 1) = upto f k ++ [f k] := by simp [upto, List.range_succ]
theorem upto_length {α : Type} (f : Nat → α) (k : Nat) : (upto f k).length = k := by simp [upto]
theorem upto_take (zs : List Int) {k : Nat} (hk : k ≤ zs.length) : upto (fun j => zs[j]?.getD 0) k = zs.take k := by
  apply List.ext_getElem
  · simp [upto, hk]
  · intro i h1 h2
    have : i < zs.length := by simp [upto] at h1; omega
    simp [upto, this]
theorem upto_all (zs : List Int) : upto (fun j => zs[j]?.getD 0) zs.length = zs := by rw [upto_take zs (Nat.le_refl _), List.take_length]

set_option maxRecDepth 100000 in
set_option maxHeartbeats 2000000 in
/-- the iterator, whatever is done with each number that leaves what lay below n₀ -/
theorem values1_in (F : Fence) (n : Nat) (h7 : F.fn 126) (hro : F.round = none) (hn : 1 ≤ n) (l Bs n₀ b off len cap : Nat) (zs : List Int) (hreach : len * 8 ≤ 140737488351232) (hb : b < n₀) (J Jx : List Int → World → Prop)
    (hY : ∀ pre x W, J pre W → pre.length < len → YieldAt F (n - 1) Tryz.prog l #[.int .u64 x] W fun e W' =>
      (e = .returned (.bool true) ∧ J (pre ++ [x]) W' ∧ Below n₀ W W') ∨ (e = .returned (.bool false) ∧ Jx (pre ++ [x]) W'))
    (W : World) (hBs : W.cell? ⟨Bs, 0, none⟩ = some (.slice (some ⟨b, off, none⟩) len cap)) (hc : ∀ j, j < len → W.cell? ⟨b, off + j, none⟩ = some (.int .u64 (zs[j]?.getD 0))) (h0 : J [] W) :
    CallsIn F n Tryz.prog 126 #[.func (.yield l) #[] #[], .pointer (some ⟨Bs, 0, none⟩)] W fun e W' => (∃ v, e = .returned v) ∧
      ((∃ ys, ys = upto (fun j => zs[j]?.getD 0) len ∧ J ys W') ∨ (∃ pre, (∃ k, k ≤ len ∧ pre = upto (fun j => zs[j]?.getD 0) k) ∧ Jx pre W')) := by
  refine callsIn_of_wp Tryz.func126 rfl h7 ?_ hro
  simp only [Tryz.ntmps126, List.size_toArray, List.length_cons, List.length_nil, Nat.reduceAdd, Nat.reduceSub, Array.replicate_succ, Array.replicate_zero, List.push_toArray, List.append_toArray, List.nil_append, List.cons_append]
  gi_wp2
  gi_loopw [7] (fun i wr => ∃ k : Nat, k ≤ len ∧ i = .int .i64 k ∧ J (upto (fun j => zs[j]?.getD 0) k) wr ∧ Below n₀ W wr)
    (fun i _ => len - (intOf i).toNat)
  case atStart => exact ⟨0, Nat.zero_le _, rfl, h0, Below.refl _ _⟩
  case round =>
    obtain ⟨k, hk, rfl, hJs, hnx⟩ := hrel
    have hcx : k < len → wr.cell? ⟨b, off + k, none⟩ = some (.int .u64 (zs[k]?.getD 0)) := fun h => (hnx.cell (p := ⟨b, off + k, none⟩) hb).trans (hc k h)
    by_cases hlt : k < len
    · obtain ⟨fn, tmps, assign, body, hy, hR⟩ := hY _ (zs[k]?.getD 0) wr hJs (by rw [upto_length]; exact hlt)
      have hcx' := hcx hlt
      gi_wp2
      refine hR.mono ?_
      rintro e W3 (⟨rfl, hJ3, hk3⟩ | ⟨rfl, hJx3⟩)
      · gi_wp2
        go_roundw
        case rel => exact ⟨k + 1, by omega, by simp, by rw [upto_succ]; exact hJ3, hnx.trans hk3⟩
        case measure => simp [intOf]; omega
      · gi_wp2
        refine bodyPost_ret (results_none rfl _ _ _) rfl ?_
        exact ⟨⟨_, rfl⟩, .inr ⟨_, ⟨k + 1, by omega, (upto_succ _ _).symm⟩, hJx3⟩⟩
    · obtain rfl : k = len := by omega
      gi_wp2
      go_end0
      exact ⟨⟨_, rfl⟩, .inl ⟨_, rfl, hJs⟩⟩

set_option maxRecDepth 100000 in
set_option maxHeartbeats 1000000 in
/-- no numbers: no round -/
theorem values1_nil_in (F : Fence) (n : Nat) (h7 : F.fn 126) (hro : F.round = none) (l Bs cap : Nat) (ao : Option Addr) (J : List Int → World → Prop) (W : World) (hBs : W.cell? ⟨Bs, 0, none⟩ = some (.slice ao 0 cap)) (h0 : J [] W) :
    CallsIn F n Tryz.prog 126 #[.func (.yield l) #[] #[], .pointer (some ⟨Bs, 0, none⟩)] W fun e W' => (∃ v, e = .returned v) ∧ J [] W' := by
  refine callsIn_of_wp Tryz.func126 rfl h7 ?_ hro
  simp only [Tryz.ntmps126, List.size_toArray, List.length_cons, List.length_nil, Nat.reduceAdd, Nat.reduceSub, Array.replicate_succ, Array.replicate_zero, List.push_toArray, List.append_toArray, List.nil_append, List.cons_append]
  gi_wp2
  gi_loopw [7] (fun i wr => i = .int .i64 0 ∧ J [] wr) (fun _ _ => 0)
  case atStart => exact ⟨rfl, h0⟩
  case round =>
    obtain ⟨rfl, hJs⟩ := hrel
    gi_wp2
    go_end0
    exact ⟨⟨_, rfl⟩, hJs⟩

set_option maxHeartbeats 1000000 in
theorem values_in (F : Fence) (n : Nat) (h5 : F.fn 106) (hro : F.round = none) (a : Option Addr) (len cap : Nat) (w : World) :
    CallsIn F n Tryz.prog 106 #[.slice a len cap] w fun e w' => e = .returned (.func (.func 126) #[] #[.pointer (some ⟨w.heap.size, 0, none⟩)]) ∧ w' = w.alloc (.cells #[.slice a len cap] 39) := by
  refine callsIn_of_wp Tryz.func106 rfl h5 ?_ hro
  simp only [Tryz.ntmps106, List.size_toArray, List.length_cons, List.length_nil, Nat.reduceAdd, Nat.reduceSub, Array.replicate_succ, Array.replicate_zero, List.push_toArray, List.append_toArray, List.nil_append, List.cons_append]
  gi_wp2
  go_ret
  exact ⟨rfl, rfl⟩

/-- the numbers of a slice whose blocks lie below n₀ -/
def Low (n₀ : Nat) (W : World) (sv : Value) (zs : List Int) : Prop :=
  ∃ ao cap, sv = .slice ao zs.length cap ∧ (zs ≠ [] → ∃ b off, ao = some ⟨b, off, none⟩ ∧ b < n₀ ∧ ∀ j, j < zs.length → W.cell? ⟨b, off + j, none⟩ = some (.int .u64 (zs[j]?.getD 0)))
theorem Low.below {n₀ : Nat} {A B : World} (h : Below n₀ A B) {sv : Value} {zs : List Int} : Low n₀ A sv zs → Low n₀ B sv zs := by
  rintro ⟨ao, cap, rfl, hr⟩
  refine ⟨ao, cap, rfl, fun hne => ?_⟩
  obtain ⟨b, off, rfl, hb, hc⟩ := hr hne
  exact ⟨b, off, rfl, hb, fun j hj => (h.cell (p := ⟨b, off + j, none⟩) hb).trans (hc j hj)⟩

theorem values_stops (F : Fence) (n : Nat) (h7 : F.fn 126) (hro : F.round = none) (hn : 1 ≤ n) (Bs n₀ : Nat) (sv : Value) (zs : List Int) (hreach : zs.length * 8 ≤ 140737488351232) (w : World) (hBs : Bs < w.heap.size) (hn₀ : n₀ ≤ w.heap.size)
    (hc : w.cell? ⟨Bs, 0, none⟩ = some sv) (hI : Low n₀ w sv zs) :
    SeqStopsK F n Tryz.prog 126 #[.pointer (some ⟨Bs, 0, none⟩)] (fun x : Int => #[Value.int .u64 x]) (Below n₀) (fun ys => ys = zs) (fun pre => pre <+: zs) zs.length w := fun l J Jx W hW _ _ hY h0 => by
  have hc' := (hW.cell (p := ⟨Bs, 0, none⟩) hBs).trans hc
  obtain ⟨ao, cap, rfl, hr⟩ := hI.below (hW.mono hn₀)
  by_cases hne : zs = []
  · subst hne
    exact (values1_nil_in F n h7 hro l Bs cap ao J W hc' h0).mono fun e W' ⟨he, hj⟩ => ⟨he, .inl ⟨_, rfl, hj⟩⟩
  · obtain ⟨b, off, rfl, hb, hcs⟩ := hr hne
    refine (values1_in F n h7 hro hn l Bs n₀ b off zs.length cap zs hreach hb J Jx hY W hc' hcs h0).mono ?_
    rintro e W' ⟨he, ⟨ys, rfl, hj⟩ | ⟨pre, ⟨k, hk, rfl⟩, hj⟩⟩
    · exact ⟨he, .inl ⟨_, upto_all zs, hj⟩⟩
    · exact ⟨he, .inr ⟨_, by rw [upto_take zs hk]; exact List.take_prefix _ _, hj⟩⟩
end Go.Proofs.YthapipgaohlgdabGreatDoor
