/- Package pad: Size and Bucket. -/
import Derived.Test.YtfoghkjlpdjmiaaPz19
namespace Go.Proofs.Ytfoghkjlpdjmiaa
open Go.RowKit Go.Shelf
attribute [local go_sem] Oper.semAt_some

theorem results_b1 {P : Program} {fn : Func} {p : Tmp} {ty : TypeId} (h : fn.results = #[.cell p ty]) (tmps : Array Value) (w : World) {a : Addr} {v : Value} (ha : tmps[p]?.getD undef = .pointer (some a)) (hl : (loadVar ty a).run P w = .ok v w) :
    (results fn tmps).run P w = .ok v w := by
  simp only [results, h]
  simp [ha, asAddr, hl]
theorem results_b2 {P : Program} {fn : Func} {p q : Tmp} {ty ty2 : TypeId} (h : fn.results = #[.cell p ty, .cell q ty2]) (tmps : Array Value) (w : World) {a b : Addr} {v1 v2 : Value}
    (hp : tmps[p]?.getD undef = .pointer (some a)) (hq : tmps[q]?.getD undef = .pointer (some b)) (h1 : (loadVar ty a).run P w = .ok v1 w) (h2 : (loadVar ty2 b).run P w = .ok v2 w) :
    (results fn tmps).run P w = .ok (.tuple #[v1, v2]) w := by
  simp [results, h, hp, hq, asAddr, h1, h2]
theorem load_bint {W : World} {b : Nat} {c : Int} (h : Boxed W b 3 (.int .i64 c)) : (loadVar 3 ⟨b, 0, none⟩).run Try.prog W = .ok (.int .i64 c) W := by
  have hc := h.cell
  simp [go_sem, hc]
theorem load_berr {W : World} {b : Nat} {c : Int} (h : Boxed W b 23 (.int .i64 c)) : (loadVar 23 ⟨b, 0, none⟩).run Try.prog W = .ok (.int .i64 c) W := by
  have hc := h.cell
  simp [go_sem, hc]
/-- what Size says -/
def SZV (k : Int) : Int := if 0 ≤ k ∧ k ≤ 8 then (PSZ k.toNat : Int) else 0
set_option maxRecDepth 100000 in
set_option maxHeartbeats 1000000 in
theorem size_any (k : Int) (w : World) : Calls Try.prog 12 #[.int .i64 k] w fun e w' => e = .returned (.int .i64 (SZV k)) ∧ Only (fun _ => False) w w' := by
  refine (callsIn_wide (n := 5)).1 ?_
  refine callsIn_of_wp_marks Try.func12 rfl trivial ?_ rfl
  simp only [Try.ntmps12, List.size_toArray, List.length_cons, List.length_nil, Nat.reduceAdd, Nat.reduceSub, Array.replicate_succ, Array.replicate_zero, List.push_toArray, List.append_toArray, List.nil_append, List.cons_append]
  gi_wp2_with fail
  refine ⟨trivial, (sizes_in _ _).mono ?_⟩
  rintro e w2 ⟨rfl, rfl⟩
  gi_wp2_with fail
  obtain ⟨W0, hW0⟩ : ∃ W0, (w.alloc (.cells #[.int .i64 k] 3)).alloc (.cells #[.int .i64 0] 3) = W0 := ⟨_, rfl⟩
  have o0 : Only (fun _ => False) w W0 := by rw [← hW0]; exact ((Only.refl _ w).alloc _).alloc _
  have hsz : W0.heap.size = w.heap.size + 1 + 1 := by rw [← hW0]; simp
  have bK : Boxed W0 w.heap.size 3 (.int .i64 k) := by rw [← hW0]; exact (Boxed.new w 3 (.int .i64 k)).alloc _
  have bR : Boxed W0 (w.heap.size + 1) 3 (.int .i64 0) := by
    have h := Boxed.new (w.alloc (.cells #[.int .i64 k] 3)) 3 (.int .i64 0)
    rw [World.size_alloc, hW0] at h; exact h
  rw [hW0]
  refine range_ret (gf := 27) (lb := #[]) rfl (enters_of Try.func27 (by kernel_rfl) rfl)
    (fun x : Nat × Nat => #[.int .i64 (x.1 : Int), .int .i64 (x.2 : Int)]) (fun _ => rfl)
    (fun s A => (∀ j : Nat, j < s → (j : Int) ≠ k) ∧ Only (fun _ => False) W0 A)
    (fun s A => (0 ≤ k ∧ k ≤ 8) ∧ Only (fun j => j = w.heap.size + 1) W0 A ∧ Boxed A (w.heap.size + 1) 3 (.int .i64 (PSZ k.toNat : Int)))
    (fun s x s' A => s' = s + 1 ∧ s < 9 ∧ x.1 = s ∧ x.2 = PSZ s) 0 9
    (fun s A B r hi hl o => ⟨hi.1, hi.2.trans o (fun i hi e => by omega)⟩) (fun s A B r hi hl o => ⟨hi.1, hi.2.1.trans o (fun i hi e => by omega), box_keep hi.2.2 o (by omega)⟩) (fun s A B hi o => ⟨hi.1, hi.2.same o⟩)
    (fun s x s' A B r hv hl o => hv) ⟨fun j hj => by omega, Only.refl _ _⟩
    ?hit (fun x => { tmps := #[.int .i64 k, .pointer (some ⟨w.heap.size, 0, none⟩), .pointer (some ⟨w.heap.size + 1, 0, none⟩), .int .i64 (x.1 : Int), .int .i64 (x.2 : Int), .func (.func 27) #[] #[], .int .i64 (x.1 : Int), .int .i64 (x.2 : Int), undef, undef, undef, undef], defers := [] }) ?assign ?body ?done ?stop
  case hit =>
    intro J Jx W hJ hJo hY h0 hW
    refine sizes1_in 4 (W0.heap.size + 1) J Jx (fun s A h9 hs => ?_) W h0
    obtain ⟨fn, tmps, assign, body, hy, hR⟩ := hY s (s, PSZ s) (s + 1) A hs ⟨rfl, h9, rfl, rfl⟩
    refine ⟨fn, tmps, assign, body, hy, hR.mono ?_⟩
    rintro e B (⟨h1, h2, _⟩ | h)
    · exact .inl ⟨h1, h2⟩
    · exact .inr h
  case assign =>
    intro x W K hK
    gi_wp2
    exact hK
  case body =>
    rintro s ⟨x1, x2⟩ s' W ⟨hs, hq⟩ ⟨rfl, h9, hx1, hx2⟩
    simp only at hx1 hx2
    subst hx1 hx2
    have hck := (box_keep bK hq (fun f => f)).cell
    have bR' := box_keep bR hq (fun f => f)
    have hcr := bR'.cell
    have hfr := bR'.frozen
    by_cases heq : (x1 : Int) = k
    · have d1 : ((x1 : Int) == k) = true := by simpa using heq
      have o5 : Only (fun j => j = w.heap.size + 1) W (W.setCell ⟨w.heap.size + 1, 0, none⟩ (.int .i64 (PSZ x1 : Int))) := (Only.refl (fun j => j = w.heap.size + 1) W).setCell (p := ⟨w.heap.size + 1, 0, none⟩) (fun _ => rfl) _
      have FIN : Hid (Only (fun j => j < W0.heap.size) W (W.setCell ⟨w.heap.size + 1, 0, none⟩ (.int .i64 (PSZ x1 : Int))) ∧ (0 ≤ k ∧ k ≤ 8) ∧ Only (fun j => j = w.heap.size + 1) W0 (W.setCell ⟨w.heap.size + 1, 0, none⟩ (.int .i64 (PSZ x1 : Int))) ∧ Boxed (W.setCell ⟨w.heap.size + 1, 0, none⟩ (.int .i64 (PSZ x1 : Int))) (w.heap.size + 1) 3 (.int .i64 (PSZ k.toNat : Int))) := by
        refine ⟨o5.mono (fun j _ e => by omega), by omega, (hq.mono (fun _ _ f => f.elim)).trans o5 (fun _ _ e => e), ?_⟩
        have : k.toNat = x1 := by omega
        rw [this]
        exact bR'.set _
      generalize PSZ x1 = q at *
      clear hs hq bR' o5 heq
      gi_wp2
      exact FIN.out
    · have d1 : ((x1 : Int) == k) = false := by simpa using heq
      have FIN : Hid (Only (fun j => j < W0.heap.size) W W ∧ (∀ j : Nat, j < x1 + 1 → (j : Int) ≠ k) ∧ Only (fun _ => False) W0 W) := by
        refine ⟨Only.refl _ _, fun j hj e => ?_, hq⟩
        rcases Nat.lt_or_ge j x1 with h | h
        · exact hs j h e
        · exact heq (by omega)
      generalize PSZ x1 = q at *
      clear hs hq bR' heq
      gi_wp2
      exact FIN.out
  case done =>
    intro W hi hD
    have hS : SZV k = 0 := by
      unfold SZV
      rw [if_neg]
      rintro ⟨h1, h2⟩
      exact hi.1 k.toNat (by omega) (by omega)
    have bR' := box_keep bR hi.2 (fun f => f)
    have hcr := bR'.cell
    have hfr := bR'.frozen
    have HI := hideIt hi.2
    have HD := hideIt hD
    have HBR := hideIt bR'
    have HS := hideIt hS
    clear hi hD bR' hS
    gi_wp2
    have o5 : Only (fun j => j = w.heap.size + 1) W (W.setCell ⟨w.heap.size + 1, 0, none⟩ (.int .i64 0)) := (Only.refl (fun j => j = w.heap.size + 1) W).setCell (p := ⟨w.heap.size + 1, 0, none⟩) (fun _ => rfl) _
    have hD5 := o5.heap HD.out (by omega)
    have o6 : Only (fun j => j = W0.heap.size) (W.setCell ⟨w.heap.size + 1, 0, none⟩ (.int .i64 0)) ((W.setCell ⟨w.heap.size + 1, 0, none⟩ (.int .i64 0)).putObj W0.heap.size (.deferred none)) := (Only.refl _ _).putObj _ _ (fun _ => rfl)
    refine ⟨by simp, .inl ⟨_, _, rfl, run_takeDeferred hD5, ?_⟩⟩
    refine ⟨.int .i64 0, results_b1 rfl _ _ rfl (load_bint (box_keep (HBR.out.set _) o6 (by omega))), ?_, ?_⟩
    · rw [HS.out]
    · exact ((o0.same HI.out).trans o5 (fun j _ e => by omega)).trans o6 (fun j _ e => by omega)
  case stop =>
    intro s W hi hD
    have hS : SZV k = (PSZ k.toNat : Int) := if_pos hi.1
    have hcr := hi.2.2.cell
    have HI := hideIt hi.2.1
    have HD := hideIt hD
    have HBR := hideIt hi.2.2
    have HS := hideIt hS
    clear hi hD hS
    generalize PSZ k.toNat = q at *
    gi_wp2
    have o6 : Only (fun j => j = W0.heap.size) W (W.putObj W0.heap.size (.deferred none)) := (Only.refl _ _).putObj _ _ (fun _ => rfl)
    refine ⟨by simp, .inl ⟨_, _, rfl, run_takeDeferred HD.out, ?_⟩⟩
    refine ⟨.int .i64 (q : Int), results_b1 rfl _ _ rfl (load_bint (box_keep HBR.out o6 (by omega))), ?_, ?_⟩
    · rw [HS.out]
    · exact (o0.trans HI.out (fun j _ e => by omega)).trans o6 (fun j _ e => by omega)
/-- what Bucket says -/
def BKV (n : Int) : Int := if 0 ≤ n ∧ n ≤ 4194300 then (PBK n.toNat : Int) else 0
def BKE (n : Int) : Int := if n < 0 then 1 else if 4194300 < n then 4 else 0
theorem PBK_at {s n : Nat} (h9 : s < 9) (h : n + 4 ≤ PSZ s) (hb : ∀ j, j < s → PSZ j < n + 4) : PBK n = s := by
  have hc := PBK_cases n
  rcases (show s = 0 ∨ s = 1 ∨ s = 2 ∨ s = 3 ∨ s = 4 ∨ s = 5 ∨ s = 6 ∨ s = 7 ∨ s = 8 by omega) with rfl | rfl | rfl | rfl | rfl | rfl | rfl | rfl | rfl
  · simp only [PSZ, Nat.reducePow, Nat.reduceMul] at h
    omega
  · have := hb 0 (by omega)
    simp only [PSZ, Nat.reducePow, Nat.reduceMul] at h this
    omega
  · have := hb 1 (by omega)
    simp only [PSZ, Nat.reducePow, Nat.reduceMul] at h this
    omega
  · have := hb 2 (by omega)
    simp only [PSZ, Nat.reducePow, Nat.reduceMul] at h this
    omega
  · have := hb 3 (by omega)
    simp only [PSZ, Nat.reducePow, Nat.reduceMul] at h this
    omega
  · have := hb 4 (by omega)
    simp only [PSZ, Nat.reducePow, Nat.reduceMul] at h this
    omega
  · have := hb 5 (by omega)
    simp only [PSZ, Nat.reducePow, Nat.reduceMul] at h this
    omega
  · have := hb 6 (by omega)
    simp only [PSZ, Nat.reducePow, Nat.reduceMul] at h this
    omega
  · have := hb 7 (by omega)
    simp only [PSZ, Nat.reducePow, Nat.reduceMul] at h this
    omega

set_option maxRecDepth 100000 in
set_option maxHeartbeats 1000000 in
theorem bucket_any (n : Int) (w : World) : Calls Try.prog 10 #[.int .i64 n] w fun e w' => e = .returned (.tuple #[.int .i64 (BKV n), .int .i64 (BKE n)]) ∧ Only (fun _ => False) w w' := by
  obtain ⟨W0, hW0⟩ : ∃ W0, ((w.alloc (.cells #[.int .i64 n] 3)).alloc (.cells #[.int .i64 0] 3)).alloc (.cells #[.int .i64 0] 23) = W0 := ⟨_, rfl⟩
  have o0 : Only (fun _ => False) w W0 := by rw [← hW0]; exact (((Only.refl _ w).alloc _).alloc _).alloc _
  have hsz : W0.heap.size = w.heap.size + 1 + 1 + 1 := by rw [← hW0]; simp
  have bN : Boxed W0 w.heap.size 3 (.int .i64 n) := by rw [← hW0]; exact ((Boxed.new w 3 (.int .i64 n)).alloc _).alloc _
  have bR : Boxed W0 (w.heap.size + 1) 3 (.int .i64 0) := by
    have h := (Boxed.new (w.alloc (.cells #[.int .i64 n] 3)) 3 (.int .i64 0)).alloc (.cells #[.int .i64 0] 23)
    rw [World.size_alloc, hW0] at h; exact h
  have bE : Boxed W0 (w.heap.size + 1 + 1) 23 (.int .i64 0) := by
    have h := Boxed.new ((w.alloc (.cells #[.int .i64 n] 3)).alloc (.cells #[.int .i64 0] 3)) 23 (.int .i64 0)
    rw [World.size_alloc, World.size_alloc, hW0] at h; exact h
  have ONE : ∀ (V : World) (x y : Int), Boxed V (w.heap.size + 1) 3 (.int .i64 0) → Boxed V (w.heap.size + 1 + 1) 23 (.int .i64 0) →
      Only (fun j => j = w.heap.size + 1 ∨ j = w.heap.size + 1 + 1) V ((V.setCell ⟨w.heap.size + 1, 0, none⟩ (.int .i64 x)).setCell ⟨w.heap.size + 1 + 1, 0, none⟩ (.int .i64 y)) ∧
      Boxed ((V.setCell ⟨w.heap.size + 1, 0, none⟩ (.int .i64 x)).setCell ⟨w.heap.size + 1 + 1, 0, none⟩ (.int .i64 y)) (w.heap.size + 1) 3 (.int .i64 x) ∧
      Boxed ((V.setCell ⟨w.heap.size + 1, 0, none⟩ (.int .i64 x)).setCell ⟨w.heap.size + 1 + 1, 0, none⟩ (.int .i64 y)) (w.heap.size + 1 + 1) 23 (.int .i64 y) := by
    intro V x y h1 h2
    have oa : Only (fun j => j = w.heap.size + 1) V (V.setCell ⟨w.heap.size + 1, 0, none⟩ (.int .i64 x)) := (Only.refl (fun j => j = w.heap.size + 1) V).setCell (p := ⟨w.heap.size + 1, 0, none⟩) (fun _ => rfl) _
    have ob : Only (fun j => j = w.heap.size + 1 + 1) (V.setCell ⟨w.heap.size + 1, 0, none⟩ (.int .i64 x)) ((V.setCell ⟨w.heap.size + 1, 0, none⟩ (.int .i64 x)).setCell ⟨w.heap.size + 1 + 1, 0, none⟩ (.int .i64 y)) := (Only.refl (fun j => j = w.heap.size + 1 + 1) _).setCell (p := ⟨w.heap.size + 1 + 1, 0, none⟩) (fun _ => rfl) _
    exact ⟨(oa.mono (T := fun j => j = w.heap.size + 1 ∨ j = w.heap.size + 1 + 1) (fun _ _ e => .inl e)).trans ob (fun _ _ e => .inr e), box_keep (h1.set _) ob (by omega), (box_keep h2 oa (by omega)).set _⟩
  have HONE := hideIt ONE
  clear ONE
  by_cases hn : n < 0
  · have d1 : decide (n < 0) = true := decide_eq_true hn
    have HV : Hid (BKV n = 0 ∧ BKE n = 1) := ⟨if_neg (by omega), if_pos hn⟩
    have bR' : Boxed (((w.alloc (.cells #[.int .i64 n] 3)).alloc (.cells #[.int .i64 0] 3)).alloc (.cells #[.int .i64 1] 23)) (w.heap.size + 1) 3 (.int .i64 0) := by
      have h := (Boxed.new (w.alloc (.cells #[.int .i64 n] 3)) 3 (.int .i64 0)).alloc (.cells #[.int .i64 1] 23)
      rw [World.size_alloc] at h; exact h
    have bE' : Boxed (((w.alloc (.cells #[.int .i64 n] 3)).alloc (.cells #[.int .i64 0] 3)).alloc (.cells #[.int .i64 1] 23)) (w.heap.size + 1 + 1) 23 (.int .i64 1) := by
      have h := Boxed.new ((w.alloc (.cells #[.int .i64 n] 3)).alloc (.cells #[.int .i64 0] 3)) 23 (.int .i64 1)
      rw [World.size_alloc, World.size_alloc] at h; exact h
    have F := hideIt (And.intro bR' bE')
    clear bR' bE' o0 hn hsz bN bR bE hW0 HONE
    refine (callsIn_wide (n := 5)).1 ?_
    refine callsIn_of_wp_marks Try.func10 rfl trivial ?_ rfl
    simp only [Try.ntmps10, List.size_toArray, List.length_cons, List.length_nil, Nat.reduceAdd, Nat.reduceSub, Array.replicate_succ, Array.replicate_zero, List.push_toArray, List.append_toArray, List.nil_append, List.cons_append]
    gi_wp2
    refine ⟨.tuple #[.int .i64 0, .int .i64 1], results_b2 rfl _ _ rfl rfl (load_bint F.out.1) (load_berr F.out.2), ?_, ?_⟩
    · rw [HV.out.1, HV.out.2]
    · exact (((Only.refl _ w).alloc _).alloc _).alloc _
  have d1 : decide (n < 0) = false := decide_eq_false hn
  obtain ⟨n, rfl⟩ := Int.eq_ofNat_of_zero_le (Int.not_lt.1 hn)
  have HW0 := hideIt hW0
  clear hW0
  refine (callsIn_wide (n := 5)).1 ?_
  refine callsIn_of_wp_marks Try.func10 rfl trivial ?_ rfl
  simp only [Try.ntmps10, List.size_toArray, List.length_cons, List.length_nil, Nat.reduceAdd, Nat.reduceSub, Array.replicate_succ, Array.replicate_zero, List.push_toArray, List.append_toArray, List.nil_append, List.cons_append]
  gi_wp2_with fail
  refine ⟨trivial, (sizes_in _ _).mono ?_⟩
  rintro e w2 ⟨rfl, rfl⟩
  gi_wp2_with fail
  rw [HW0.out]
  refine range_ret (gf := 27) (lb := #[]) rfl (enters_of Try.func27 (by kernel_rfl) rfl)
    (fun x : Nat × Nat => #[.int .i64 (x.1 : Int), .int .i64 (x.2 : Int)]) (fun _ => rfl)
    (fun s A => (∀ j : Nat, j < s → PSZ j < n + 4) ∧ Only (fun _ => False) W0 A)
    (fun s A => n ≤ 4194300 ∧ Only (fun j => j = w.heap.size + 1 ∨ j = w.heap.size + 1 + 1) W0 A ∧ Boxed A (w.heap.size + 1) 3 (.int .i64 (PBK n : Int)) ∧ Boxed A (w.heap.size + 1 + 1) 23 (.int .i64 0))
    (fun s x s' A => s' = s + 1 ∧ s < 9 ∧ x.1 = s ∧ x.2 = PSZ s) 0 9
    (fun s A B r hi hl o => ⟨hi.1, hi.2.trans o (fun i hi e => by omega)⟩) (fun s A B r hi hl o => ⟨hi.1, hi.2.1.trans o (fun i hi e => by omega), box_keep hi.2.2.1 o (by omega), box_keep hi.2.2.2 o (by omega)⟩) (fun s A B hi o => ⟨hi.1, hi.2.same o⟩)
    (fun s x s' A B r hv hl o => hv) ⟨fun j hj => by omega, Only.refl _ _⟩
    ?hit (fun x => { tmps := #[.int .i64 (n : Int), .pointer (some ⟨w.heap.size, 0, none⟩), .pointer (some ⟨w.heap.size + 1, 0, none⟩), .pointer (some ⟨w.heap.size + 1 + 1, 0, none⟩), .int .i64 (x.1 : Int), .int .i64 (x.2 : Int), .int .i64 (n : Int), .bool false, .func (.func 27) #[] #[], .int .i64 (x.1 : Int), .int .i64 (x.2 : Int), undef, undef, undef, undef, undef], defers := [] }) ?assign ?body ?done ?stop
  case hit =>
    intro J Jx W hJ hJo hY h0 hW
    refine sizes1_in 4 (W0.heap.size + 1) J Jx (fun s A h9 hs => ?_) W h0
    obtain ⟨fn, tmps, assign, body, hy, hR⟩ := hY s (s, PSZ s) (s + 1) A hs ⟨rfl, h9, rfl, rfl⟩
    refine ⟨fn, tmps, assign, body, hy, hR.mono ?_⟩
    rintro e B (⟨h1, h2, _⟩ | h)
    · exact .inl ⟨h1, h2⟩
    · exact .inr h
  case assign =>
    intro x W K hK
    gi_wp2
    exact hK
  case body =>
    rintro s ⟨x1, x2⟩ s' W ⟨hs, hq⟩ ⟨rfl, h9, hx1, hx2⟩
    simp only at hx1 hx2
    subst hx1 hx2
    have hck := (box_keep bN hq (fun f => f)).cell
    have bR' := box_keep bR hq (fun f => f)
    have bE' := box_keep bE hq (fun f => f)
    have hcr := bR'.cell
    have hfr := bR'.frozen
    have hce := bE'.cell
    have hfe := bE'.frozen
    have hps := PSZ_cases (t := x1) (by omega)
    by_cases hle : n + 4 ≤ PSZ x1
    · have e1 := PBK_at h9 hle hs
      obtain ⟨f1, f2, f3⟩ := HONE.out W (x1 : Int) 0 bR' bE'
      have FIN : Hid (Only (fun j => j < W0.heap.size) W ((W.setCell ⟨w.heap.size + 1, 0, none⟩ (.int .i64 (x1 : Int))).setCell ⟨w.heap.size + 1 + 1, 0, none⟩ (.int .i64 0)) ∧ n ≤ 4194300 ∧ Only (fun j => j = w.heap.size + 1 ∨ j = w.heap.size + 1 + 1) W0 ((W.setCell ⟨w.heap.size + 1, 0, none⟩ (.int .i64 (x1 : Int))).setCell ⟨w.heap.size + 1 + 1, 0, none⟩ (.int .i64 0)) ∧
          Boxed ((W.setCell ⟨w.heap.size + 1, 0, none⟩ (.int .i64 (x1 : Int))).setCell ⟨w.heap.size + 1 + 1, 0, none⟩ (.int .i64 0)) (w.heap.size + 1) 3 (.int .i64 (PBK n : Int)) ∧ Boxed ((W.setCell ⟨w.heap.size + 1, 0, none⟩ (.int .i64 (x1 : Int))).setCell ⟨w.heap.size + 1 + 1, 0, none⟩ (.int .i64 0)) (w.heap.size + 1 + 1) 23 (.int .i64 0)) := by
        refine ⟨f1.mono (fun j _ e => by omega), by omega, (hq.mono (fun _ _ f => f.elim)).trans f1 (fun _ _ e => e), ?_, f3⟩
        rw [e1]; exact f2
      have d2 : decide ((n : Int) ≤ (PSZ x1 : Int) - 4) = true := decide_eq_true (by omega)
      generalize PSZ x1 = q at *
      clear hs hq bR' bE' f1 f2 f3 e1 hle
      have hq64 : 64 ≤ q ∧ q ≤ 4194304 := by omega
      clear hps
      gi_wp2
      exact FIN.out
    · have FIN : Hid (Only (fun j => j < W0.heap.size) W W ∧ (∀ j : Nat, j < x1 + 1 → PSZ j < n + 4) ∧ Only (fun _ => False) W0 W) := by
        refine ⟨Only.refl _ _, fun j hj => ?_, hq⟩
        rcases Nat.lt_or_ge j x1 with h | h
        · exact hs j h
        · obtain rfl : j = x1 := by omega
          omega
      have d2 : decide ((n : Int) ≤ (PSZ x1 : Int) - 4) = false := decide_eq_false (by omega)
      clear hs
      generalize PSZ x1 = q at *
      clear hq bR' bE' hle
      have hq64 : 64 ≤ q ∧ q ≤ 4194304 := by omega
      clear hps
      gi_wp2
      exact FIN.out
  case done =>
    intro W hi hD
    have h8 := hi.1 8 (by omega)
    simp only [PSZ, Nat.reducePow, Nat.reduceMul] at h8
    have HV : Hid (BKV n = 0 ∧ BKE n = 4) := ⟨if_neg (by omega), by show BKE _ = _; unfold BKE; rw [if_neg (by omega), if_pos (by omega)]⟩
    have bR' := box_keep bR hi.2 (fun f => f)
    have bE' := box_keep bE hi.2 (fun f => f)
    have hcr := bR'.cell
    have hfr := bR'.frozen
    have hce := bE'.cell
    have hfe := bE'.frozen
    have HI := hideIt hi.2
    have HD := hideIt hD
    have HBR := hideIt bR'
    have HBE := hideIt bE'
    clear hi hD bR' bE' h8
    gi_wp2
    obtain ⟨f1, f2, f3⟩ := HONE.out W 0 4 HBR.out HBE.out
    obtain ⟨V, hV⟩ : ∃ V, V = (W.setCell ⟨w.heap.size + 1, 0, none⟩ (.int .i64 0)).setCell ⟨w.heap.size + 1 + 1, 0, none⟩ (.int .i64 4) := ⟨_, rfl⟩
    rw [← hV] at f1 f2 f3 ⊢
    have hD5 := f1.heap HD.out (by omega)
    have o6 : Only (fun j => j = W0.heap.size) V (V.putObj W0.heap.size (.deferred none)) := (Only.refl _ _).putObj _ _ (fun _ => rfl)
    refine ⟨by simp, .inl ⟨_, _, rfl, run_takeDeferred hD5, ?_⟩⟩
    refine ⟨.tuple #[.int .i64 0, .int .i64 4], results_b2 rfl _ _ rfl rfl (load_bint (box_keep f2 o6 (by omega))) (load_berr (box_keep f3 o6 (by omega))), ?_, ?_⟩
    · rw [HV.out.1, HV.out.2]
    · exact ((o0.same HI.out).trans f1 (fun j _ e => by omega)).trans o6 (fun j _ e => by omega)
  case stop =>
    intro s W hi hD
    have HV : Hid (BKV n = (PBK n : Int) ∧ BKE n = 0) := ⟨if_pos (by have := hi.1; omega), by show BKE _ = _; unfold BKE; rw [if_neg (by omega), if_neg (by have := hi.1; omega)]⟩
    have HI := hideIt hi.2.1
    have HD := hideIt hD
    have HBR := hideIt hi.2.2.1
    have HBE := hideIt hi.2.2.2
    clear hi hD
    generalize PBK n = q at *
    gi_wp2
    have o6 : Only (fun j => j = W0.heap.size) W (W.putObj W0.heap.size (.deferred none)) := (Only.refl _ _).putObj _ _ (fun _ => rfl)
    refine ⟨by simp, .inl ⟨_, _, rfl, run_takeDeferred HD.out, ?_⟩⟩
    refine ⟨.tuple #[.int .i64 (q : Int), .int .i64 0], results_b2 rfl _ _ rfl rfl (load_bint (box_keep HBR.out o6 (by omega))) (load_berr (box_keep HBE.out o6 (by omega))), ?_, ?_⟩
    · rw [HV.out.1, HV.out.2]
    · exact (o0.trans HI.out (fun j _ e => by omega)).trans o6 (fun j _ e => by omega)
end Go.Proofs.Ytfoghkjlpdjmiaa
