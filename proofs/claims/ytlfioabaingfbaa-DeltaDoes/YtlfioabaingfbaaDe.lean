/- Contracts of package delta: the closures, and what is replaced. -/
import Derived.Test.YtlfioabaingfbaaProg
import Derived.Test.YtlfioabaingfbaaBase
import Derived.Test.YtlfioabaingfbaaDm
import Derived.WalkSpells
import Derived.BigRegion
namespace Go.Proofs.Ytlfioabaingfbaa
open Go.RowKit

set_option maxHeartbeats 400000 in
set_option maxRecDepth 100000 in
theorem dclo (c : Nat) (x a : Int) (w : World) (hc : w.cell? ⟨c, 0, none⟩ = some (.int .i64 a)) (hf : w.frozen? ⟨c, 0, none⟩ = false) :
    Calls Try.prog 20 #[.int .i64 x, .pointer (some ⟨c, 0, none⟩)] w fun e w' => e = .returned (.int .i64 (wrap64 (x - a))) ∧ w' = w.setCell ⟨c, 0, none⟩ (.int .i64 x) := by
  go_enter Try.func20, Try.ntmps20
  go_wp2
  go_ret
  exact ⟨rfl, rfl⟩

set_option maxHeartbeats 400000 in
set_option maxRecDepth 100000 in
theorem sclo (c : Nat) (x a : Int) (w : World) (hc : w.cell? ⟨c, 0, none⟩ = some (.int .i64 a)) (hf : w.frozen? ⟨c, 0, none⟩ = false) :
    Calls Try.prog 21 #[.int .i64 x, .pointer (some ⟨c, 0, none⟩)] w fun e w' => e = .returned (.int .i64 (wrap64 (a + x))) ∧ w' = w.setCell ⟨c, 0, none⟩ (.int .i64 (wrap64 (a + x))) := by
  go_enter Try.func21, Try.ntmps21
  go_wp2
  go_ret
  exact ⟨rfl, rfl⟩

/-! replace -/
theorem dif_round {f : Int → List Int → List Int} {st : Int → Int → Int × Int} (hf : ∀ a x t, f a (x :: t) = (st a x).1 :: f (st a x).2 t) (xs : List Int) (j : Nat) (a : Int) (hj : j < xs.length) :
    (xs.set j (st a (xs.getD j 0)).1).take (j + 1) ++ f (st a (xs.getD j 0)).2 ((xs.set j (st a (xs.getD j 0)).1).drop (j + 1)) = xs.take j ++ f a (xs.drop j) := by
  have e1 : xs.drop j = xs.getD j 0 :: xs.drop (j + 1) := by
    rw [List.getD_eq_getElem?_getD, List.getElem?_eq_getElem hj]
    exact List.drop_eq_getElem_cons hj
  rw [e1, hf, List.take_add_one, List.take_set_of_le (Nat.le_refl _), List.drop_set_of_lt (Nat.lt_succ_self _), List.getElem?_set_self hj]
  simp

set_option maxHeartbeats 800000 in
set_option maxRecDepth 100000 in
/-- THE NUMBERS OF A LIST BEHIND THE FIRST st ARE REPLACED, with dif. -/
theorem rep_d (lo c st n : Nat) (a0 : Int) (v : Value) (xs : List Int) (w : World) (hn : xs.length = n) (hown : w.ownsRow lo 3 1 v n (xs.map (Value.int .i64)))
    (hc : w.cell? ⟨c, 0, none⟩ = some (.int .i64 a0)) (hf : w.frozen? ⟨c, 0, none⟩ = false) (hne : ∀ k, v.ownBlock = some k → k ≠ c) (hl : n ≤ 1000000) (hs : st ≤ 1000000) :
    Calls Try.prog 16 #[v, .int .i64 st, .func (.func 20) #[] #[.pointer (some ⟨c, 0, none⟩)]] w fun e w' => e = .returned (.tuple #[]) ∧
      w'.ownsRow lo 3 1 v n ((xs.take st ++ dif a0 (xs.drop st)).map (Value.int .i64)) ∧ Only (fun k => v.ownBlock = some k ∨ k = c) w w' := by
  have hform : v = .slice none 0 0 ∧ n = 0 ∨ ∃ g cap, v = .slice (some ⟨g, 0, none⟩) n cap := by
    rcases hown.2 with h | ⟨g, cap, cur, h, _⟩
    · exact .inl h
    · exact .inr ⟨g, cap, h⟩
  obtain ⟨fin, hfin⟩ : ∃ fin, fin = xs.take st ++ dif a0 (xs.drop st) := ⟨_, rfl⟩
  rw [← hfin]
  rcases hform with ⟨rfl, rfl⟩ | ⟨g, cap, rfl⟩
  · have hx : xs = [] := List.eq_nil_of_length_eq_zero hn
    subst hx
    have hfin' : fin = [] := by rw [hfin]; simp [dif]
    subst hfin'
    have H := hideIt hown
    clear hown hfin hc hf hne hn
    go_enter Try.func16, Try.ntmps16
    go_wp2
    go_loop [6] (fun i => i = .int .i64 st) (fun _ => 0)
    case atStart => rfl
    case round =>
      subst hrel
      go_wp2
      go_end0
      exact ⟨rfl, H.out, Only.refl _ _⟩
  · have hgc : g ≠ c := hne g rfl
    have START := hideIt (And.intro hown (And.intro hc hf))
    have HF := hideIt hfin
    have HN := hideIt hn
    clear hown hc hf hfin hne hn
    go_enter Try.func16, Try.ntmps16
    go_wp2
    go_loopw [6] (fun i wr => ∃ (j : Nat) (ys : List Int) (a : Int), j ≤ 1000000 ∧ i = .int .i64 j ∧ ys.length = n ∧ wr.ownsRow lo 3 1 (.slice (some ⟨g, 0, none⟩) n cap) n (ys.map (Value.int .i64)) ∧
        wr.cell? ⟨c, 0, none⟩ = some (.int .i64 a) ∧ wr.frozen? ⟨c, 0, none⟩ = false ∧ fin = ys.take j ++ dif a (ys.drop j) ∧ Only (fun k => k = g ∨ k = c) w wr) (fun i _ => n - (intOf i).toNat)
    case atStart => exact ⟨st, xs, a0, hs, rfl, HN.out, START.out.1, START.out.2.1, START.out.2.2, HF.out, Only.refl _ _⟩
    case round =>
      obtain ⟨j, ys, a, hj, rfl, hyl, hown, hc, hf, hfin, hon⟩ := hrel
      clear START HF HN
      by_cases hlt : j < n
      · have hcell : wr.cell? ⟨g, j, none⟩ = some (.int .i64 (ys.getD j 0)) := by
          rw [hown.cellAt j (by omega), List.getElem?_map, List.getElem?_eq_getElem (by omega), List.getD_eq_getElem?_getD, List.getElem?_eq_getElem (by omega)]
          rfl
        have hrnd := dif_round (f := dif) (st := fun a x => (wrap64 (x - a), x)) (fun _ _ _ => rfl) ys j a (by omega)
        obtain ⟨y, hy⟩ : ∃ y, y = ys.getD j 0 := ⟨_, rfl⟩
        rw [← hy] at hcell hrnd
        have A := hideIt (dclo c y a wr hc hf)
        have hcell2 : (wr.setCell ⟨c, 0, none⟩ (.int .i64 (y))).cell? ⟨g, j, none⟩ = some (.int .i64 y) := by
          rw [World.cell?_setCell_other (h := by intro h; exact hgc (by cases h; rfl))]; exact hcell
        have hfr2 : (wr.setCell ⟨c, 0, none⟩ (.int .i64 (y))).frozen? ⟨g, j, none⟩ = false := by
          rw [World.frozen?_setCell]; exact hown.frozenAt _
        have hon2 : Only (fun k => k = g ∨ k = c) w (wr.setCell ⟨c, 0, none⟩ (.int .i64 (y))) := hon.setCell (fun _ => .inr rfl) _
        have hown2 : (wr.setCell ⟨c, 0, none⟩ (.int .i64 (y))).ownsRow lo 3 1 (.slice (some ⟨g, 0, none⟩) n cap) n (ys.map (Value.int .i64)) :=
          ((Only.refl (fun k => k = c) wr).setCell (p := ⟨c, 0, none⟩) (fun _ => rfl) _).own hown (fun k hk => by simp [Value.ownBlock] at hk; omega)
        have hc2 : (wr.setCell ⟨c, 0, none⟩ (.int .i64 (y))).cell? ⟨c, 0, none⟩ = some (.int .i64 (y)) := World.cell?_setCell_same _ _ _ hc
        have hf2 : (wr.setCell ⟨c, 0, none⟩ (.int .i64 (y))).frozen? ⟨c, 0, none⟩ = false := by rw [World.frozen?_setCell]; exact hf
        have H := hideIt (And.intro hon2 (And.intro hown2 (And.intro hc2 (And.intro hf2 (And.intro hfin hrnd)))))
        have i0 : (0 : Int) ≤ (j : Int) := by omega
        have i1 : (j : Int) < (n : Int) := by omega
        clear hown hc hf hfin hon hon2 hown2 hc2 hf2 hrnd
        have HY := hideIt hy
        have HYL := hideIt hyl
        clear hy hyl
        go_wp2_with fail
        refine A.out.mono ?_
        rintro e w1 ⟨rfl, rfl⟩
        clear A
        go_wp2
        go_roundw
        case rel =>
          refine ⟨j + 1, ys.set j (wrap64 (y - a)), y, by omega, by go_num, by rw [List.length_set]; exact HYL.out, ?_, ?_, ?_, ?_, ?_⟩
          · have h1 := (H.out.2.1.stored j (.int .i64 (wrap64 (y - a)))).1
            rw [← List.map_set] at h1
            exact h1
          · rw [World.cell?_setCell_other (h := by intro h; exact hgc (by cases h; rfl))]; exact H.out.2.2.1
          · rw [World.frozen?_setCell]; exact H.out.2.2.2.1
          · rw [H.out.2.2.2.2.1]; exact H.out.2.2.2.2.2.symm
          · exact H.out.1.setCell (fun _ => .inl rfl) _
        case measure => simp [intOf]; omega
      · have e1 : fin = ys := by
          rw [hfin, List.drop_of_length_le (by omega), List.take_of_length_le (by omega)]; simp [dif]
        subst e1
        have H := hideIt (And.intro hown hon)
        clear hown hon hc hf hfin
        have HYL := hideIt hyl
        clear hyl
        go_wp2
        go_end0
        exact ⟨rfl, H.out.1, H.out.2.mono (fun i _ h => h.imp (fun e => by rw [e]; rfl) id)⟩

set_option maxHeartbeats 800000 in
set_option maxRecDepth 100000 in
/-- THE NUMBERS OF A LIST BEHIND THE FIRST st ARE REPLACED, with sm. -/
theorem rep_s (lo c st n : Nat) (a0 : Int) (v : Value) (xs : List Int) (w : World) (hn : xs.length = n) (hown : w.ownsRow lo 3 1 v n (xs.map (Value.int .i64)))
    (hc : w.cell? ⟨c, 0, none⟩ = some (.int .i64 a0)) (hf : w.frozen? ⟨c, 0, none⟩ = false) (hne : ∀ k, v.ownBlock = some k → k ≠ c) (hl : n ≤ 1000000) (hs : st ≤ 1000000) :
    Calls Try.prog 16 #[v, .int .i64 st, .func (.func 21) #[] #[.pointer (some ⟨c, 0, none⟩)]] w fun e w' => e = .returned (.tuple #[]) ∧
      w'.ownsRow lo 3 1 v n ((xs.take st ++ sm a0 (xs.drop st)).map (Value.int .i64)) ∧ Only (fun k => v.ownBlock = some k ∨ k = c) w w' := by
  have hform : v = .slice none 0 0 ∧ n = 0 ∨ ∃ g cap, v = .slice (some ⟨g, 0, none⟩) n cap := by
    rcases hown.2 with h | ⟨g, cap, cur, h, _⟩
    · exact .inl h
    · exact .inr ⟨g, cap, h⟩
  obtain ⟨fin, hfin⟩ : ∃ fin, fin = xs.take st ++ sm a0 (xs.drop st) := ⟨_, rfl⟩
  rw [← hfin]
  rcases hform with ⟨rfl, rfl⟩ | ⟨g, cap, rfl⟩
  · have hx : xs = [] := List.eq_nil_of_length_eq_zero hn
    subst hx
    have hfin' : fin = [] := by rw [hfin]; simp [sm]
    subst hfin'
    have H := hideIt hown
    clear hown hfin hc hf hne hn
    go_enter Try.func16, Try.ntmps16
    go_wp2
    go_loop [6] (fun i => i = .int .i64 st) (fun _ => 0)
    case atStart => rfl
    case round =>
      subst hrel
      go_wp2
      go_end0
      exact ⟨rfl, H.out, Only.refl _ _⟩
  · have hgc : g ≠ c := hne g rfl
    have START := hideIt (And.intro hown (And.intro hc hf))
    have HF := hideIt hfin
    have HN := hideIt hn
    clear hown hc hf hfin hne hn
    go_enter Try.func16, Try.ntmps16
    go_wp2
    go_loopw [6] (fun i wr => ∃ (j : Nat) (ys : List Int) (a : Int), j ≤ 1000000 ∧ i = .int .i64 j ∧ ys.length = n ∧ wr.ownsRow lo 3 1 (.slice (some ⟨g, 0, none⟩) n cap) n (ys.map (Value.int .i64)) ∧
        wr.cell? ⟨c, 0, none⟩ = some (.int .i64 a) ∧ wr.frozen? ⟨c, 0, none⟩ = false ∧ fin = ys.take j ++ sm a (ys.drop j) ∧ Only (fun k => k = g ∨ k = c) w wr) (fun i _ => n - (intOf i).toNat)
    case atStart => exact ⟨st, xs, a0, hs, rfl, HN.out, START.out.1, START.out.2.1, START.out.2.2, HF.out, Only.refl _ _⟩
    case round =>
      obtain ⟨j, ys, a, hj, rfl, hyl, hown, hc, hf, hfin, hon⟩ := hrel
      clear START HF HN
      by_cases hlt : j < n
      · have hcell : wr.cell? ⟨g, j, none⟩ = some (.int .i64 (ys.getD j 0)) := by
          rw [hown.cellAt j (by omega), List.getElem?_map, List.getElem?_eq_getElem (by omega), List.getD_eq_getElem?_getD, List.getElem?_eq_getElem (by omega)]
          rfl
        have hrnd := dif_round (f := sm) (st := fun a x => (wrap64 (a + x), wrap64 (a + x))) (fun _ _ _ => rfl) ys j a (by omega)
        obtain ⟨y, hy⟩ : ∃ y, y = ys.getD j 0 := ⟨_, rfl⟩
        rw [← hy] at hcell hrnd
        have A := hideIt (sclo c y a wr hc hf)
        have hcell2 : (wr.setCell ⟨c, 0, none⟩ (.int .i64 (wrap64 (a + y)))).cell? ⟨g, j, none⟩ = some (.int .i64 y) := by
          rw [World.cell?_setCell_other (h := by intro h; exact hgc (by cases h; rfl))]; exact hcell
        have hfr2 : (wr.setCell ⟨c, 0, none⟩ (.int .i64 (wrap64 (a + y)))).frozen? ⟨g, j, none⟩ = false := by
          rw [World.frozen?_setCell]; exact hown.frozenAt _
        have hon2 : Only (fun k => k = g ∨ k = c) w (wr.setCell ⟨c, 0, none⟩ (.int .i64 (wrap64 (a + y)))) := hon.setCell (fun _ => .inr rfl) _
        have hown2 : (wr.setCell ⟨c, 0, none⟩ (.int .i64 (wrap64 (a + y)))).ownsRow lo 3 1 (.slice (some ⟨g, 0, none⟩) n cap) n (ys.map (Value.int .i64)) :=
          ((Only.refl (fun k => k = c) wr).setCell (p := ⟨c, 0, none⟩) (fun _ => rfl) _).own hown (fun k hk => by simp [Value.ownBlock] at hk; omega)
        have hc2 : (wr.setCell ⟨c, 0, none⟩ (.int .i64 (wrap64 (a + y)))).cell? ⟨c, 0, none⟩ = some (.int .i64 (wrap64 (a + y))) := World.cell?_setCell_same _ _ _ hc
        have hf2 : (wr.setCell ⟨c, 0, none⟩ (.int .i64 (wrap64 (a + y)))).frozen? ⟨c, 0, none⟩ = false := by rw [World.frozen?_setCell]; exact hf
        have H := hideIt (And.intro hon2 (And.intro hown2 (And.intro hc2 (And.intro hf2 (And.intro hfin hrnd)))))
        have i0 : (0 : Int) ≤ (j : Int) := by omega
        have i1 : (j : Int) < (n : Int) := by omega
        clear hown hc hf hfin hon hon2 hown2 hc2 hf2 hrnd
        have HY := hideIt hy
        have HYL := hideIt hyl
        clear hy hyl
        go_wp2_with fail
        refine A.out.mono ?_
        rintro e w1 ⟨rfl, rfl⟩
        clear A
        go_wp2
        go_roundw
        case rel =>
          refine ⟨j + 1, ys.set j (wrap64 (a + y)), wrap64 (a + y), by omega, by go_num, by rw [List.length_set]; exact HYL.out, ?_, ?_, ?_, ?_, ?_⟩
          · have h1 := (H.out.2.1.stored j (.int .i64 (wrap64 (a + y)))).1
            rw [← List.map_set] at h1
            exact h1
          · rw [World.cell?_setCell_other (h := by intro h; exact hgc (by cases h; rfl))]; exact H.out.2.2.1
          · rw [World.frozen?_setCell]; exact H.out.2.2.2.1
          · rw [H.out.2.2.2.2.1]; exact H.out.2.2.2.2.2.symm
          · exact H.out.1.setCell (fun _ => .inl rfl) _
        case measure => simp [intOf]; omega
      · have e1 : fin = ys := by
          rw [hfin, List.drop_of_length_le (by omega), List.take_of_length_le (by omega)]; simp [sm]
        subst e1
        have H := hideIt (And.intro hown hon)
        clear hown hon hc hf hfin
        have HYL := hideIt hyl
        clear hyl
        go_wp2
        go_end0
        exact ⟨rfl, H.out.1, H.out.2.mono (fun i _ h => h.imp (fun e => by rw [e]; rfl) id)⟩
end Go.Proofs.Ytlfioabaingfbaa
