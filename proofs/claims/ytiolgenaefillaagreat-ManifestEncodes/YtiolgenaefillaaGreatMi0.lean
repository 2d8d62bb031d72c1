/- Package manifest: Encode. -/
import Derived.Test.YtiolgenaefillaaGreatMh
import Derived.Test.YtiolgenaefillaaGreatG9
import Derived.Deep.RegionHeld3
import Derived.Laws.IdiomStrings
import Derived.Deep.RegionWith
namespace Go.Proofs.YtiolgenaefillaaGreat
open Go.RowKit Go.Maps

/-- why a manifest has no bytes -/
def MEr (m : MAN) : Int :=
  if m.ver = 18446744073709551615 ∨ m.prev.length ≠ 32 ∨ m.root.length ≠ 32 then 1
  else if m.es.any (fun e => !okB e.2) = true then 1
  else if 1048576 < m.es.length ∨ m.es.any (fun e => decide (64 < e.1.length)) = true then 4 else 0
/-- its bytes -/
def MEt (m : MAN) : List Int := if MEr m = 0 then MENC m else []
theorem MEr_ok {m : MAN} (hk : Mok m) : MEr m = 0 ↔ MGD m := by
  unfold MEr
  constructor
  · intro h
    by_cases h1 : m.ver = 18446744073709551615 ∨ m.prev.length ≠ 32 ∨ m.root.length ≠ 32
    · rw [if_pos h1] at h; cases h
    · rw [if_neg h1] at h
      by_cases h2 : m.es.any (fun e => !okB e.2) = true
      · rw [if_pos h2] at h; cases h
      · rw [if_neg h2] at h
        by_cases h3 : 1048576 < m.es.length ∨ m.es.any (fun e => decide (64 < e.1.length)) = true
        · rw [if_pos h3] at h; cases h
        · have hv := hk.ver
          refine ⟨by omega, ⟨by omega, hk.prev⟩, ⟨by omega, hk.root⟩, by omega, fun e he => ⟨⟨?_, hk.es e he⟩, ?_⟩⟩
          · have h4 : ¬ m.es.any (fun e => decide (64 < e.1.length)) = true := fun q => h3 (.inr q)
            rw [List.any_eq_true] at h4
            exact Nat.le_of_not_lt fun q => h4 ⟨e, he, by simpa using q⟩
          · rw [List.any_eq_true] at h2
            by_cases q : 0 ≤ e.2 ∧ e.2 ≤ 8
            · exact q
            · exact absurd ⟨e, he, by simp only [okB, decide_eq_false q, Bool.not_false]⟩ h2
  · rintro ⟨h1, h2, h3, h4, h5⟩
    have q2 : ¬ m.es.any (fun e => !okB e.2) = true := by
      rw [List.any_eq_true]
      rintro ⟨e, he, q⟩
      have := (h5 e he).2
      rw [okB, decide_eq_true this] at q
      cases q
    have q3 : ¬ m.es.any (fun e => decide (64 < e.1.length)) = true := by
      rw [List.any_eq_true]
      rintro ⟨e, he, q⟩
      have := (h5 e he).1.1
      have := of_decide_eq_true q
      omega
    rw [if_neg (by have := h2.1; have := h3.1; omega), if_neg q2, if_neg (fun q => q.elim (fun q => by omega) q3)]
theorem heap4 {W : World} {B : Nat} {x0 x1 x2 x3 : Value} (h : W.heap[B]? = some (.cells #[x0, x1, x2, x3] 26 (0, 0))) : W.cell? ⟨B, 0, none⟩ = some x0 ∧ W.cell? ⟨B, 1, none⟩ = some x1 ∧ W.cell? ⟨B, 2, none⟩ = some x2 ∧ W.cell? ⟨B, 3, none⟩ = some x3 :=
  ⟨by simp [World.cell?, h], by simp [World.cell?, h], by simp [World.cell?, h], by simp [World.cell?, h]⟩
def six {α : Type} (a b c d e f : α) : Nat → α
  | 0 => a
  | 1 => b
  | 2 => c
  | 3 => d
  | 4 => e
  | _ => f
theorem cat_six (a b c d e f : List Int) : cat (six a b c d e f) 6 = a ++ (b ++ (c ++ (d ++ (e ++ f)))) := by
  simp [cat, List.range_succ, six]
theorem lit4_bs {W : World} {X : Nat} (h : W.heap[X]? = some (.cells #[.int .u8 67, .int .u8 83, .int .u8 75, .int .u8 49] 5 (0, 0))) : Bs .u8 W (.slice (some ⟨X, 0, none⟩) 4 4) MHD := by
  refine ⟨some _, 4, rfl, Nat.le_refl _, fun _ => ⟨X, 0, rfl, fun j hj => ?_⟩⟩
  have hj' : j < 4 := hj
  match j, hj' with
  | 0, _ => simp [World.cell?, h, MHD]
  | 1, _ => simp [World.cell?, h, MHD]
  | 2, _ => simp [World.cell?, h, MHD]
  | 3, _ => simp [World.cell?, h, MHD]
theorem concat_six {W : World} {B : Nat} {v0 v1 v2 v3 v4 v5 : Value} {l0 l1 l2 l3 l4 l5 : List Int} (hB : W.heap[B]? = some (.cells #[v0, v1, v2, v3, v4, v5] 23 (0, 0)))
    (b0 : Bs .u8 W v0 l0) (b1 : Bs .u8 W v1 l1) (b2 : Bs .u8 W v2 l2) (b3 : Bs .u8 W v3 l3) (b4 : Bs .u8 W v4 l4) (b5 : Bs .u8 W v5 l5) (n0 : NoCap v0) (n1 : NoCap v1) (n2 : NoCap v2) (n3 : NoCap v3) (n4 : NoCap v4) (n5 : NoCap v5)
    (hp : 0 < l0.length) (hl : (l0 ++ (l1 ++ (l2 ++ (l3 ++ (l4 ++ l5))))).length ≤ 140737488355328) :
    Calls Tryz.prog 22 #[.slice (some ⟨B, 0, none⟩) 6 6] W fun e w' => ∃ v', e = .returned v' ∧ w'.ownsRow W.heap.size 5 1 v' (l0 ++ (l1 ++ (l2 ++ (l3 ++ (l4 ++ l5))))).length ((l0 ++ (l1 ++ (l2 ++ (l3 ++ (l4 ++ l5))))).map (Value.int .u8)) ∧ Only (fun _ => False) W w' := by
  have := concat_n B 6 (six v0 v1 v2 v3 v4 v5) (six l0 l1 l2 l3 l4 l5) W (by omega) (by omega)
    (fun i hi => by
      have e : W.cell? ⟨B, i, none⟩ = (#[v0, v1, v2, v3, v4, v5] : Array Value)[i]? := by unfold World.cell?; simp only; rw [hB]; rfl
      rw [e]
      match i, hi with
      | 0, _ => rfl
      | 1, _ => rfl
      | 2, _ => rfl
      | 3, _ => rfl
      | 4, _ => rfl
      | 5, _ => rfl)
    (fun i hi => by
      match i, hi with
      | 0, _ => exact b0
      | 1, _ => exact b1
      | 2, _ => exact b2
      | 3, _ => exact b3
      | 4, _ => exact b4
      | 5, _ => exact b5)
    (fun i hi => by
      match i, hi with
      | 0, _ => exact n0
      | 1, _ => exact n1
      | 2, _ => exact n2
      | 3, _ => exact n3
      | 4, _ => exact n4
      | 5, _ => exact n5)
    (by rw [cat_six]; simp only [List.length_append]; omega) (by rw [cat_six]; exact hl)
  rw [cat_six] at this
  exact this
theorem keep4 {w3 W W' : World} {B : Nat} {x0 x1 x2 x3 : Value} (h : Only (fun _ => False) w3 W ∧ W.cell? ⟨B, 0, none⟩ = some x0 ∧ W.cell? ⟨B, 1, none⟩ = some x1 ∧ W.cell? ⟨B, 2, none⟩ = some x2 ∧ W.cell? ⟨B, 3, none⟩ = some x3) (o : Only (fun _ => False) W W') :
    Only (fun _ => False) w3 W' ∧ W'.cell? ⟨B, 0, none⟩ = some x0 ∧ W'.cell? ⟨B, 1, none⟩ = some x1 ∧ W'.cell? ⟨B, 2, none⟩ = some x2 ∧ W'.cell? ⟨B, 3, none⟩ = some x3 := by
  obtain ⟨h1, h2, h3, h4, h5⟩ := h
  have hb : B < W.heap.size := World.block_lt_of_cell? W _ h2
  have e := o.block B hb (fun f => f)
  exact ⟨h1.same o, by rw [← h2]; unfold World.cell?; rw [e], by rw [← h3]; unfold World.cell?; rw [e], by rw [← h4]; unfold World.cell?; rw [e], by rw [← h5]; unfold World.cell?; rw [e]⟩
theorem mark_heap {W : World} {b : Nat} {C : Array Value} (h : W.heap[b]? = some (.cells C 5 (0, 0))) : (W.freeze ⟨b, C.size, none⟩ 1).heap[b]? = some (.cells C 5 (C.size, C.size + 1)) ∧ Only (fun k => k = b) W (W.freeze ⟨b, C.size, none⟩ 1) := by
  have hb : b < W.heap.size := (Array.getElem?_eq_some_iff.1 h).1
  unfold World.freeze
  rw [if_neg (by decide)]
  refine ⟨?_, ⟨rfl, rfl, rfl, by simp, fun k hk hne => ?_⟩⟩
  · simp [Array.getElem?_modify, h]
  · have : ¬ b = k := fun e => hne e.symm
    simp [Array.getElem?_modify, this]
theorem mark_bs {W : World} {b : Nat} {C : Array Value} (h : W.heap[b]? = some (.cells C 5 (0, 0))) {v : Value} {xs : List Int} (hv : Bs .u8 W v xs) : Bs .u8 (W.freeze ⟨b, C.size, none⟩ 1) v xs := by
  obtain ⟨m1, m2⟩ := mark_heap h
  obtain ⟨ao, cap, rfl, hl, hr⟩ := hv
  refine ⟨ao, cap, rfl, hl, fun hne => ?_⟩
  obtain ⟨c, off, rfl, hc⟩ := hr hne
  refine ⟨c, off, rfl, fun j hj => ?_⟩
  have h0 := hc j hj
  by_cases e : c = b
  · subst e
    rw [← h0]
    simp only [World.cell?, m1, h]
  · have hlt : c < W.heap.size := World.block_lt_of_cell? W _ h0
    have e2 := m2.block c hlt e
    rw [← h0]; unfold World.cell?; rw [e2]
set_option maxRecDepth 100000 in
theorem run_mark {W : World} {b : Nat} {C : Array Value} (n c : Nat) (h : W.heap[b]? = some (.cells C 5 (0, 0))) : (convert 23 23 (.slice (some ⟨b, 0, none⟩) n c)).run Tryz.prog W = .ok (.slice (some ⟨b, 0, none⟩) n c) (W.freeze ⟨b, C.size, none⟩ 1) := by
  have hsh : W.shape? b = some (5, C.size) := by unfold World.shape?; rw [h]
  simp [convert, run_underlying Tryz.underlying23, run_underlying Tryz.underlying5, markStringish, hsh]
set_option maxRecDepth 100000 in
theorem upon_mark {w : World} {o : Oper} {a : Act} {K : Act → World → Prop} {Q : Exit → Act → World → Prop} (w3 : World) {b : Nat}
    (hb : w.heap[b]? = some (.cells #[.int .u8 67, .int .u8 83, .int .u8 75, .int .u8 49] 5 (0, 0))) (h3 : w3.heap.size ≤ b) (o3 : Only (fun _ => False) w3 w)
    (h : ∀ w', Only (fun _ => False) w3 w' → Bs .u8 w' (.slice (some ⟨b, 0, none⟩) 4 4) MHD → (∀ v xs, Bs .u8 w v xs → Bs .u8 w' v xs) → K (a.put o.dst (.slice (some ⟨b, 0, none⟩) 4 4)) w') :
    Oper.upon Tryz.prog o a K Q (((convert 23 23 (.slice (some ⟨b, 0, none⟩) 4 4)).run Tryz.prog w).andThen fun a w' => .ok (.value a) w') := by
  obtain ⟨m1, m2⟩ := mark_heap hb
  have hK := h (w.freeze ⟨b, 4, none⟩ 1) (o3.trans m2 (fun i hi e => by omega)) ?_ (fun v xs hv => mark_bs hb hv)
  · rw [run_mark 4 4 hb]
    exact hK
  · refine ⟨some _, 4, rfl, Nat.le_refl _, fun _ => ⟨b, 0, rfl, fun j hj => ?_⟩⟩
    have hj' : j < 4 := hj
    have m1' : (w.freeze ⟨b, 4, none⟩ 1).heap[b]? = _ := m1
    match j, hj' with
    | 0, _ => simp [World.cell?, m1', MHD]
    | 1, _ => simp [World.cell?, m1', MHD]
    | 2, _ => simp [World.cell?, m1', MHD]
    | 3, _ => simp [World.cell?, m1', MHD]
/-- the first three that may be wrong -/
theorem encode_arg (ver : Nat) (ap ar : Option Addr) (pl pc rl rc : Nat) (ve : Value) (w : World) (h : ver = 18446744073709551615 ∨ pl ≠ 32 ∨ rl ≠ 32) :
    Calls Tryz.prog 8 #[.agg #[.int .u64 ver, .slice ap pl pc, ve, .slice ar rl rc]] w fun e w' => e = .returned (.tuple #[.slice none 0 0, .int .i64 1]) ∧ Only (fun _ => False) w w' := by
  by_cases h1 : ver = 18446744073709551615
  · have d1 : ((ver : Int) == 18446744073709551615) = true := by simp; omega
    clear h1 h
    go_enter Tryz.func8, Tryz.ntmps8
    go_wp2
    go_ret2
    exact ⟨rfl, (Only.refl _ _).alloc _⟩
  · have d1 : ((ver : Int) == 18446744073709551615) = false := by rw [beq_eq_false_iff_ne]; omega
    by_cases h2 : pl = 32
    · have h3 : rl ≠ 32 := by omega
      have d2 : ((pl : Int) != 32) = false := by subst h2; decide
      have d3 : ((rl : Int) != 32) = true := by simp; omega
      clear h1 h2 h3 h
      go_enter Tryz.func8, Tryz.ntmps8
      go_wp2
      go_ret2
      exact ⟨rfl, (Only.refl _ _).alloc _⟩
    · have d2 : ((pl : Int) != 32) = true := by simp; omega
      clear h1 h2 h
      go_enter Tryz.func8, Tryz.ntmps8
      go_wp2
      go_ret2
      exact ⟨rfl, (Only.refl _ _).alloc _⟩
set_option maxHeartbeats 2000000 in
set_option maxRecDepth 100000 in
theorem encode_bad (x vp ve vr : Value) (m : MAN) (w : World) (h : Mf w x m vp ve vr) (hk : Mok m) (np : NoCap vp) (nr : NoCap vr) (hm63 : m.es.length ≤ 9223372036854775806) (h0 : MEr m ≠ 0) :
    Calls Tryz.prog 8 #[x] w fun e w' => ∃ u, e = .returned (.tuple #[u, .int .i64 (MEr m)]) ∧ w'.ownsRow w.heap.size 5 1 u (MEt m).length ((MEt m).map (Value.int .u8)) ∧ Only (fun _ => False) w w' := by
  obtain ⟨rfl, hp, he, hr⟩ := h
  obtain ⟨ap, pc, e1⟩ := hp.len
  obtain ⟨ar, rc, e2⟩ := hr.len
  subst e1 e2
  by_cases h1 : m.ver = 18446744073709551615 ∨ m.prev.length ≠ 32 ∨ m.root.length ≠ 32
  · have e1 : MEr m = 1 := by unfold MEr; rw [if_pos h1]
    have e2 : MEt m = [] := by unfold MEt; rw [e1]; rfl
    rw [e1, e2]
    refine (encode_arg _ _ _ _ _ _ _ _ w h1).mono ?_
    rintro e w' ⟨rfl, o⟩
    exact ⟨_, rfl, World.ownsRow_nil _ _ _ _, o⟩
  · have d1 : ((m.ver : Int) == 18446744073709551615) = false := by rw [beq_eq_false_iff_ne]; omega
    have l1 : m.prev.length = 32 := by omega
    have l2 : m.root.length = 32 := by omega
    rw [l1] at hp np
    rw [l2] at hr nr
    rw [l1, l2]
    have e32 : ((32 : Nat) : Int) = 32 := rfl
    obtain ⟨ao, cap, e3⟩ := he.len
    subst e3
    have oa : Only (fun _ => False) w (w.alloc (.cells #[.int .u64 m.ver, .slice ap 32 pc, .slice ao m.es.length cap, .slice ar 32 rc] 26)) := (Only.refl _ _).alloc _
    have A := hideIt (containsFunc24_any _ _ _ (he.past oa) hm63)
    have OA := hideIt oa
    have HE := hideIt he
    have HP := hideIt hp
    have HR := hideIt hr
    have K0 := hideIt (heap_alloc_new w (.cells #[.int .u64 m.ver, .slice ap 32 pc, .slice ao m.es.length cap, .slice ar 32 rc] 26))
    by_cases h2 : m.es.any (fun e => !okB e.2) = true
    · have e1 : MEr m = 1 := by unfold MEr; rw [if_neg h1, if_pos h2]
      have e2 : MEt m = [] := by unfold MEt; rw [e1]; rfl
      rw [e1, e2]
      rw [h2] at A
      clear h1 h2 e1 e2 oa he hp hr l1 l2
      go_enter Tryz.func8, Tryz.ntmps8
      go_wp2_with fail
      refine A.out.mono ?_
      rintro e w1 ⟨rfl, o1⟩
      have O := hideIt (OA.out.same o1)
      clear A o1
      go_wp2
      go_ret2
      exact ⟨_, rfl, World.ownsRow_nil _ _ _ _, O.out⟩
    · have hf2 : m.es.any (fun e => !okB e.2) = false := by simpa using h2
      rw [hf2] at A
      have B := hideIt (fun W o => containsFunc25_any _ _ W (he.past (oa.same o)) hm63 hk.es)
      by_cases h3 : 1048576 < m.es.length
      · have e1 : MEr m = 4 := by unfold MEr; rw [if_neg h1, if_neg h2, if_pos (.inl h3)]
        have e2 : MEt m = [] := by unfold MEt; rw [e1]; rfl
        rw [e1, e2]
        have d3 : decide ((1048576 : Int) < (m.es.length : Int)) = true := by simp; omega
        have d4 : decide ((1048576 : Nat) < m.es.length) = true := by simp; omega
        clear h1 h2 e1 e2 oa he hp hr l1 l2 hf2 hk
        generalize m.es.length = n at *
        go_enter Tryz.func8, Tryz.ntmps8
        go_wp2_with fail
        refine A.out.mono ?_
        rintro e w1 ⟨rfl, o1⟩
        obtain ⟨c0, c1, c2, c3⟩ := heap4 (o1.heap K0.out (fun f => f))
        have O := hideIt (OA.out.same o1)
        clear A o1
        go_wp2
        go_ret2
        exact ⟨_, rfl, World.ownsRow_nil _ _ _ _, O.out⟩
      · have d3 : decide ((1048576 : Int) < (m.es.length : Int)) = false := by simp; omega
        have d4 : decide ((1048576 : Nat) < m.es.length) = false := by simp; omega
        by_cases h4 : m.es.any (fun e => decide (64 < e.1.length)) = true
        · have e1 : MEr m = 4 := by unfold MEr; rw [if_neg h1, if_neg h2, if_pos (.inr h4)]
          have e2 : MEt m = [] := by unfold MEt; rw [e1]; rfl
          rw [e1, e2]
          rw [h4] at B
          clear h1 h2 e1 e2 oa he hp hr l1 l2 hf2 hk h4
          generalize m.es.length = n at *
          go_enter Tryz.func8, Tryz.ntmps8
          go_wp2_with fail
          refine A.out.mono ?_
          rintro e w1 ⟨rfl, o1⟩
          obtain ⟨c0, c1, c2, c3⟩ := heap4 (o1.heap K0.out (fun f => f))
          have C := hideIt (B.out w1 o1)
          have O := hideIt (OA.out.same o1)
          clear A o1 B
          go_wp2_with fail
          refine C.out.mono ?_
          rintro e w2 ⟨rfl, o2⟩
          have O2 := hideIt (O.out.same o2)
          clear C o2
          go_wp2
          go_ret2
          exact ⟨_, rfl, World.ownsRow_nil _ _ _ _, O2.out⟩
        · exact absurd (by unfold MEr; rw [if_neg h1, if_neg h2, if_neg (fun q => q.elim h3 h4)]) h0
end Go.Proofs.YtiolgenaefillaaGreat
