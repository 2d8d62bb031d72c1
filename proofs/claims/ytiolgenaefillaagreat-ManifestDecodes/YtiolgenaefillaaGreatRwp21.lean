/- The document's manifest: what its reading comes to: plain facts. -/
import Derived.Test.YtiolgenaefillaaGreatRv21
import Derived.Test.YtiolgenaefillaaGreatJp
namespace Go.Proofs.YtiolgenaefillaaGreat
open Go.RowKit

/-- so far all is well, or it is known why not -/
def STQ (ys : List Int) (s : List Int × Int) (P : List Int → Prop) : Prop := (s.2 = 0 ∧ P s.1) ∨ (s.2 ≠ 0 ∧ MDEC ys = .error s.2)
def P1 (ys : List Int) (t : List Int) : Prop := rdHd ys = .ok (MHD, t)
def P2 (ys : List Int) (v : Nat) (t : List Int) : Prop := ∃ y1, P1 ys y1 ∧ rdVer y1 = .ok (v, t)
def P3 (ys : List Int) (v : Nat) (p t : List Int) : Prop := ∃ y2, P2 ys v y2 ∧ rdB 32 y2 = .ok (p, t)
def P4 (ys : List Int) (v : Nat) (p : List Int) (T : List (List Int)) (t : List Int) : Prop := ∃ y3 n, P3 ys v p y3 ∧ rdDir y3 = .ok ((n, T), t)
def P5 (ys : List Int) (v : Nat) (p : List Int) (T : List (List Int)) (ts : List (Nat × List Int)) (t : List Int) : Prop := ∃ y4 n, P4 ys v p T y4 ∧ rdAll T.length y4 = .ok ((n, ts), t)
def P6 (ys : List Int) (v : Nat) (p : List Int) (T : List (List Int)) (ts : List (Nat × List Int)) (r t : List Int) : Prop := ∃ y5, P5 ys v p T ts y5 ∧ rdB 32 y5 = .ok (r, t)
theorem rB_cases (n : Nat) (s : List Int × Int) (h0 : s.2 = 0) : (s.1.length < n ∧ rB n s = ([], (s.1, 2))) ∨ (¬ s.1.length < n ∧ rB n s = (s.1.take n, (s.1.drop n, 0))) := by
  unfold rB
  rw [if_pos h0]
  unfold sBytes
  rw [if_neg (by omega)]
  by_cases h : s.1.length < n
  · rw [if_pos (by omega)]
    exact .inl ⟨h, rfl⟩
  · rw [if_neg (by omega), Int.toNat_natCast]
    exact .inr ⟨h, rfl⟩
theorem rB_err {n : Nat} {s : List Int × Int} (h : s.2 ≠ 0) : rB n s = ([], s) := if_neg h
theorem rB_len (n : Nat) (s : List Int × Int) : (rB n s).2.1.length ≤ s.1.length ∧ (rB n s).1.length ≤ n := by
  by_cases h : s.2 = 0
  · rcases rB_cases n s h with ⟨_, e⟩ | ⟨_, e⟩ <;> rw [e]
    · exact ⟨Nat.le_refl _, Nat.zero_le _⟩
    · exact ⟨by simp, by simp; omega⟩
  · rw [rB_err h]; exact ⟨Nat.le_refl _, Nat.zero_le _⟩
theorem rB_u8 (n : Nat) (s : List Int × Int) (h8 : U8 s.1) : U8 (rB n s).2.1 ∧ U8 (rB n s).1 := by
  by_cases h : s.2 = 0
  · rcases rB_cases n s h with ⟨_, e⟩ | ⟨_, e⟩ <;> rw [e]
    · exact ⟨h8, fun y hy => by cases hy⟩
    · exact ⟨u8_drop h8 n, fun y hy => h8 y (List.mem_of_mem_take hy)⟩
  · rw [rB_err h]; exact ⟨h8, fun y hy => by cases hy⟩
theorem two0 : (2 : Int) ≠ 0 := by decide
theorem three0 : (3 : Int) ≠ 0 := by decide
theorem four0 : (4 : Int) ≠ 0 := by decide
theorem step_hd (ys : List Int) : STQ ys (rN (decide ((rB 4 (ys, 0)).1 = MHD)) 3 (rB 4 (ys, 0)).2) (P1 ys) := by
  rcases rB_cases 4 (ys, 0) rfl with ⟨h, e⟩ | ⟨h, e⟩ <;> rw [e]
  · rw [rN_err two0]
    exact .inr ⟨two0, M1 (hd_short h)⟩
  · by_cases hm : ys.take 4 = MHD
    · rw [decide_eq_true hm, rN_ok]
      exact .inl ⟨rfl, hd_ok h hm⟩
    · rw [decide_eq_false hm, rN_no rfl]
      exact .inr ⟨three0, M1 (hd_no h hm)⟩
theorem step_ver {ys : List Int} {s : List Int × Int} (h : STQ ys s (P1 ys)) : STQ ys (rN (decide (num (rB 8 s).1 ≠ 18446744073709551615)) 3 (rB 8 s).2) (P2 ys (num (rB 8 s).1)) := by
  rcases h with ⟨h0, hp⟩ | ⟨h0, hp⟩
  · rcases rB_cases 8 s h0 with ⟨h, e⟩ | ⟨h, e⟩ <;> rw [e]
    · rw [rN_err two0]
      exact .inr ⟨two0, M2 hp (ver_short h)⟩
    · by_cases hm : num (s.1.take 8) = 18446744073709551615
      · rw [decide_eq_false (by simp [hm]), rN_no rfl]
        exact .inr ⟨three0, M2 hp (ver_no h hm)⟩
      · rw [decide_eq_true hm, rN_ok]
        exact .inl ⟨rfl, s.1, hp, ver_ok h hm⟩
  · rw [rB_err h0, rN_err h0]
    exact .inr ⟨h0, hp⟩
theorem step_prev {ys : List Int} {v : Nat} {s : List Int × Int} (h : STQ ys s (P2 ys v)) : STQ ys (rB 32 s).2 (P3 ys v (rB 32 s).1) := by
  rcases h with ⟨h0, hp⟩ | ⟨h0, hp⟩
  · obtain ⟨y1, h1, h2⟩ := hp
    rcases rB_cases 32 s h0 with ⟨h, e⟩ | ⟨h, e⟩ <;> rw [e]
    · exact .inr ⟨two0, M3 h1 h2 (rdB_short h)⟩
    · exact .inl ⟨rfl, s.1, ⟨y1, h1, h2⟩, rdB_long h⟩
  · rw [rB_err h0]
    exact .inr ⟨h0, hp⟩
theorem step_dir {ys p : List Int} {v : Nat} {s s' : List Int × Int} {T : List (List Int)} (h : STQ ys s (P3 ys v p)) (hd : DIRQ s T s') : STQ ys s' (P4 ys v p T) := by
  rcases h with ⟨h0, hp⟩ | ⟨h0, hp⟩
  · rcases hd.2 h0 with ⟨e0, n, e⟩ | ⟨e0, e⟩
    · exact .inl ⟨e0, s.1, n, hp, e⟩
    · obtain ⟨y2, ⟨y1, h1, h2⟩, h3⟩ := hp
      exact .inr ⟨e0, M4 h1 h2 h3 e⟩
  · rw [hd.1 h0]
    exact .inr ⟨h0, hp⟩
/-- entries, so far -/
def ELr (D : Except Int (List (Nat × List Int) × List Int)) (T : List (List Int)) (n _L : Nat) (ts : List (Nat × List Int)) (s : List Int × Int) : Prop :=
  (s.2 = 0 ∧ ts.length ≤ n ∧ n ≤ 1048576 ∧ D = pre ts (rdEns T.length (n - ts.length) s.1)) ∨ (s.2 ≠ 0 ∧ D = .error s.2)
theorem all_start {ys p : List Int} {v : Nat} {T : List (List Int)} {s : List Int × Int} (h : STQ ys s (P4 ys v p T)) (h8 : U8 s.1) (n : Nat) (hn : (rV s).1 = (n : Int)) :
    ∃ D, ELr D T n s.1.length [] (rN (decide ((n : Int) ≤ 1048576)) 4 (rV s).2) ∧ U8 (rN (decide ((n : Int) ≤ 1048576)) 4 (rV s).2).1 ∧ (rN (decide ((n : Int) ≤ 1048576)) 4 (rV s).2).1.length ≤ s.1.length ∧
      ∀ ts s', (s'.2 = 0 ∧ D = .ok (ts, s'.1)) ∨ (s'.2 ≠ 0 ∧ D = .error s'.2) → STQ ys s' (P5 ys v p T ts) := by
  rcases h with ⟨he, hp⟩ | ⟨he, hp⟩
  · have eR : rV s = ((sVarint s.1).1, (s.1.drop (sVarint s.1).2.1, (sVarint s.1).2.2)) := if_pos he
    obtain ⟨y3, m3, ⟨y2, ⟨y1, h1, h2⟩, h3⟩, h4⟩ := hp
    rcases sVarint_cases h8 with ⟨c, h, hc⟩ | ⟨a, k, h, k1, k2, ha, _⟩
    · have hc0 : c ≠ 0 := by omega
      rw [eR, h] at hn ⊢
      have hq := rN_err (ok := decide ((n : Int) ≤ 1048576)) (c := 4) (s := (s.1.drop 0, c)) hc0
      simp only at hq ⊢
      rw [hq]
      have hm5 : MDEC ys = .error c := M5 h1 h2 h3 h4 (then_err (need_err (rdV_err h hc0)))
      refine ⟨.error c, .inr ⟨hc0, rfl⟩, u8_drop h8 _, by simp, fun ts s' hs => ?_⟩
      rcases hs with ⟨_, z⟩ | ⟨z0, z⟩
      · cases z
      · have z' := Except.error.inj z
        exact .inr ⟨z0, by rw [← z']; exact hm5⟩
    · rw [eR, h] at hn ⊢
      simp only at hn ⊢
      obtain rfl : a = n := by omega
      by_cases hm : a ≤ 1048576
      · have hd : decide ((a : Int) ≤ 1048576) = true := by rw [decide_eq_true_eq]; omega
        rw [hd, rN_ok]
        have hmy : rdMany s.1 = .ok (a, s.1.drop k) := need_ok (rdV_ok h) (decide_eq_true hm)
        refine ⟨rdEns T.length a (s.1.drop k), .inl ⟨rfl, Nat.zero_le _, hm, by rw [pre_nil]; rfl⟩, u8_drop h8 _, by simp, fun ts s' hs => ?_⟩
        rcases hs with ⟨e1, e2⟩ | ⟨e1, e2⟩
        · exact .inl ⟨e1, s.1, a, ⟨y3, m3, ⟨y2, ⟨y1, h1, h2⟩, h3⟩, h4⟩, then_ok hmy e2⟩
        · exact .inr ⟨e1, M5 h1 h2 h3 h4 (then_no hmy e2)⟩
      · have hd : decide ((a : Int) ≤ 1048576) = false := by rw [decide_eq_false_iff_not]; omega
        rw [hd, rN_no rfl]
        have hm5 : MDEC ys = .error 4 := M5 h1 h2 h3 h4 (then_err (need_no (rdV_ok h) (decide_eq_false hm)))
        refine ⟨.error 4, .inr ⟨four0, rfl⟩, u8_drop h8 _, by simp, fun ts s' hs => ?_⟩
        rcases hs with ⟨_, z⟩ | ⟨z0, z⟩
        · cases z
        · have z' := Except.error.inj z
          exact .inr ⟨z0, by rw [← z']; exact hm5⟩
  · have eR : rV s = (0, s) := if_neg he
    rw [eR] at hn ⊢
    rw [rN_err he]
    refine ⟨.error s.2, .inr ⟨he, rfl⟩, h8, Nat.le_refl _, fun ts s' hs => ?_⟩
    rcases hs with ⟨_, z⟩ | ⟨z0, z⟩
    · cases z
    · have z' := Except.error.inj z
      exact .inr ⟨z0, by rw [← z']; exact hp⟩
/-- what is left behind a place, and behind a bucket -/
def eS1 (T : List (List Int)) (s : List Int × Int) : List Int × Int := rN (decide ((rV s).1 < (T.length : Int))) 3 (rV s).2
def eK (T : List (List Int)) (s : List Int × Int) : List Int := (rB 1 (eS1 T s)).1
def eS2 (T : List (List Int)) (s : List Int × Int) : List Int × Int := rN (decide ((eK T s).length = 1) && decide ((eK T s).getD 0 0 ≤ 8)) 3 (rB 1 (eS1 T s)).2
theorem el_step {D : Except Int (List (Nat × List Int) × List Int)} {T : List (List Int)} {n L : Nat} {ts : List (Nat × List Int)} {s : List Int × Int} (h : ELr D T n L ts s) (he : s.2 = 0) (hlt : ts.length < n) (h8 : U8 s.1) :
    (((eS2 T s).2 ≠ 0 ∧ ELr D T n L ts (eS2 T s)) ∨ ((eS2 T s).2 = 0 ∧ ∃ (a : Nat) (y : Int), (rV s).1 = (a : Int) ∧ a < T.length ∧ eK T s = [y] ∧ 0 ≤ y ∧ y ≤ 8 ∧ ELr D T n L (ts ++ [(a, [y])]) (eS2 T s) ∧ (eS2 T s).1.length + 2 ≤ s.1.length)) := by
  rcases h with ⟨_, h1, h2, h4⟩ | ⟨h1, _⟩
  · obtain ⟨m, hm⟩ : ∃ m, n - ts.length = m + 1 := ⟨n - ts.length - 1, by omega⟩
    rw [hm] at h4
    have eR : rV s = ((sVarint s.1).1, (s.1.drop (sVarint s.1).2.1, (sVarint s.1).2.2)) := if_pos he
    have bad : ∀ c, c ≠ 0 → rdEn T.length s.1 = .error c → eS2 T s = ((eS2 T s).1, c) → ((eS2 T s).2 ≠ 0 ∧ ELr D T n L ts (eS2 T s)) := fun c hc0 hr hq => by
      have e2 : (eS2 T s).2 = c := by rw [hq]
      refine ⟨by rw [e2]; exact hc0, .inr ⟨by rw [e2]; exact hc0, ?_⟩⟩
      rw [e2, h4]
      unfold rdEns
      rw [rep_err (r := fun _ : Unit => rdEn T.length) hr]; rfl
    rcases sVarint_cases h8 with ⟨c, h, hc⟩ | ⟨a, k, h, k1, k2, ha, _⟩
    · have hc0 : c ≠ 0 := by omega
      left
      refine bad c hc0 (en_err h hc0) ?_
      have e1 : eS1 T s = (s.1.drop 0, c) := by unfold eS1; rw [eR, h]; exact rN_err hc0
      have e2 : rB 1 (eS1 T s) = ([], (s.1.drop 0, c)) := by rw [e1]; exact rB_err hc0
      unfold eS2
      rw [e2, rN_err (show ((s.1.drop 0, c) : List Int × Int).2 ≠ 0 from hc0)]
    · have hv : (rV s).1 = (a : Int) := by rw [eR, h]
      have hv2 : (rV s).2 = (s.1.drop k, 0) := by rw [eR, h]
      by_cases haT : a < T.length
      · have e1 : eS1 T s = (s.1.drop k, 0) := by unfold eS1; rw [hv, hv2, decide_eq_true (by omega), rN_ok]
        cases hd : s.1.drop k with
        | nil =>
          left
          refine bad 2 two0 (en_short h haT hd) ?_
          have e2 : rB 1 (eS1 T s) = ([], ([], 2)) := by
            rw [e1, hd]
            rcases rB_cases 1 (([], 0) : List Int × Int) rfl with ⟨_, e⟩ | ⟨z, _⟩
            · exact e
            · exact absurd (by decide) z
          unfold eS2
          rw [e2, rN_err (show (([], 2) : List Int × Int).2 ≠ 0 from two0)]
        | cons y t =>
          have e2 : rB 1 (eS1 T s) = ([y], (t, 0)) := by
            rw [e1, hd]
            rcases rB_cases 1 ((y :: t, 0) : List Int × Int) rfl with ⟨z, _⟩ | ⟨_, e⟩
            · simp at z
            · rw [e]; simp
          have eKy : eK T s = [y] := by unfold eK; rw [e2]
          by_cases hy : y ≤ 8
          · right
            have e3 : eS2 T s = (t, 0) := by
              unfold eS2
              rw [eKy, e2, show (decide ([y].length = 1) && decide ([y].getD 0 0 ≤ 8)) = true by simp [hy], rN_ok]
            have hy0 : 0 ≤ y := (h8 y (List.mem_of_mem_drop (by rw [hd]; exact List.mem_cons_self))).1
            have hlen : (s.1.drop k).length = t.length + 1 := by rw [hd]; rfl
            rw [List.length_drop] at hlen
            rw [e3]
            refine ⟨rfl, a, y, hv, haT, eKy, hy0, hy, .inl ⟨rfl, by simp; omega, h2, ?_⟩, by simp only; omega⟩
            rw [h4]
            unfold rdEns
            rw [rep_ok (r := fun _ : Unit => rdEn T.length) (en_ok h haT hd hy), pre_pre]
            have : n - (ts ++ [(a, [y])]).length = m := by simp; omega
            rw [this]
          · left
            refine bad 3 three0 (en_bucket h haT hd (by omega)) ?_
            unfold eS2
            rw [eKy, e2, show (decide ([y].length = 1) && decide ([y].getD 0 0 ≤ 8)) = false by simp [hy], rN_no rfl]
      · left
        refine bad 3 three0 (en_place h (by omega)) ?_
        have e1 : eS1 T s = (s.1.drop k, 3) := by unfold eS1; rw [hv, hv2, decide_eq_false (by omega), rN_no rfl]
        have e2 : rB 1 (eS1 T s) = ([], (s.1.drop k, 3)) := by rw [e1]; exact rB_err three0
        unfold eS2
        rw [e2, rN_err (show ((s.1.drop k, 3) : List Int × Int).2 ≠ 0 from three0)]
  · exact absurd he h1
theorem rN_fst (ok : Bool) (c : Int) (s : List Int × Int) : (rN ok c s).1 = s.1 := rfl
theorem rV_len (s : List Int × Int) : (rV s).2.1.length ≤ s.1.length := by
  unfold rV
  split
  · simp
  · exact Nat.le_refl _
theorem rV_u8 {s : List Int × Int} (h : U8 s.1) : U8 (rV s).2.1 := by
  unfold rV
  split
  · exact u8_drop h _
  · exact h
theorem eS2_fine {T : List (List Int)} {s : List Int × Int} (h : U8 s.1) : U8 (eS2 T s).1 ∧ (eS2 T s).1.length ≤ s.1.length := by
  unfold eS2
  rw [rN_fst]
  have h1 : U8 (eS1 T s).1 := by unfold eS1; rw [rN_fst]; exact rV_u8 h
  have h2 : (eS1 T s).1.length ≤ s.1.length := by unfold eS1; rw [rN_fst]; exact rV_len s
  exact ⟨(rB_u8 1 _ h1).1, Nat.le_trans (rB_len 1 _).1 h2⟩
theorem step_root {ys p : List Int} {v : Nat} {T : List (List Int)} {ts : List (Nat × List Int)} {s : List Int × Int} (h : STQ ys s (P5 ys v p T ts)) : STQ ys (rB 32 s).2 (P6 ys v p T ts (rB 32 s).1) := by
  rcases h with ⟨h0, hp⟩ | ⟨h0, hp⟩
  · rcases rB_cases 32 s h0 with ⟨h, e⟩ | ⟨h, e⟩ <;> rw [e]
    · obtain ⟨y4, n, ⟨y3, m3, ⟨y2, ⟨y1, h1, h2⟩, h3⟩, h4⟩, h5⟩ := hp
      exact .inr ⟨two0, M6 h1 h2 h3 h4 h5 (rdB_short h)⟩
    · exact .inl ⟨rfl, s.1, hp, rdB_long h⟩
  · rw [rB_err h0]
    exact .inr ⟨h0, hp⟩
theorem P6.all {ys p r t : List Int} {v : Nat} {T : List (List Int)} {ts : List (Nat × List Int)} (h : P6 ys v p T ts r t) : ∃ m n, MRD ys = .ok ((MHD, v, p, (m, T), (n, ts), r), t) := by
  obtain ⟨y5, ⟨y4, n, ⟨y3, m3, ⟨y2, ⟨y1, h1, h2⟩, h3⟩, h4⟩, h5⟩, h6⟩ := h
  exact ⟨m3, n, Mall h1 h2 h3 h4 h5 h6⟩
/-- is the place named? -/
def usd (ts : List (Nat × List Int)) (i : Nat) : Bool := ts.any fun t => t.1 == i
/-- behind the last byte, and the first i places looked at -/
def PE (ys p r : List Int) (v : Nat) (T : List (List Int)) (ts : List (Nat × List Int)) (i : Nat) (t : List Int) : Prop := P6 ys v p T ts r t ∧ t = [] ∧ ∀ j, j < i → usd ts j = true
theorem step_end {ys p r : List Int} {v : Nat} {T : List (List Int)} {ts : List (Nat × List Int)} {s : List Int × Int} (h : STQ ys s (P6 ys v p T ts r)) : STQ ys (rN (decide (s.1.length = 0)) 3 s) (PE ys p r v T ts 0) := by
  rcases h with ⟨h0, hp⟩ | ⟨h0, hp⟩
  · by_cases hl : s.1.length = 0
    · rw [decide_eq_true hl, rN_ok]
      exact .inl ⟨h0, hp, List.eq_nil_of_length_eq_zero hl, fun j hj => by omega⟩
    · rw [decide_eq_false hl, rN_no h0]
      obtain ⟨m, n, ha⟩ := hp.all
      exact .inr ⟨three0, M7 ha (fun z => hl (by rw [z]; rfl))⟩
  · rw [rN_err h0]
    exact .inr ⟨h0, hp⟩
theorem step_used {ys p r : List Int} {v : Nat} {T : List (List Int)} {ts : List (Nat × List Int)} {s : List Int × Int} {i : Nat} (hi : i < T.length) (h : STQ ys s (PE ys p r v T ts i)) : STQ ys (rN (usd ts i) 3 s) (PE ys p r v T ts (i + 1)) := by
  rcases h with ⟨h0, hp⟩ | ⟨h0, hp⟩
  · cases hu : usd ts i with
    | true =>
      rw [rN_ok]
      refine .inl ⟨h0, hp.1, hp.2.1, fun j hj => ?_⟩
      rcases Nat.lt_succ_iff_lt_or_eq.1 hj with z | rfl
      · exact hp.2.2 j z
      · exact hu
    | false =>
      rw [rN_no h0]
      obtain ⟨m, n, ha⟩ := hp.1.all
      refine .inr ⟨three0, M8 ha hp.2.1 (fun z => ?_)⟩
      unfold usedAll at z
      rw [List.all_eq_true] at z
      have := z i (List.mem_range.2 hi)
      unfold usd at hu
      rw [hu] at this
      cases this
  · rw [rN_err h0]
    exact .inr ⟨h0, hp⟩
theorem step_last {ys p r : List Int} {v : Nat} {T : List (List Int)} {ts : List (Nat × List Int)} {s : List Int × Int} (h : STQ ys s (PE ys p r v T ts T.length)) :
    (s.2 = 0 ∧ MDEC ys = .ok ⟨v, p, ts.map (EOF T), r⟩) ∨ (s.2 ≠ 0 ∧ MDEC ys = .error s.2) := by
  rcases h with ⟨h0, hp⟩ | h
  · obtain ⟨m, n, ha⟩ := hp.1.all
    refine .inl ⟨h0, M9 ha hp.2.1 ?_⟩
    unfold usedAll
    rw [List.all_eq_true]
    intro i hi
    exact hp.2.2 i (List.mem_range.1 hi)
  · exact .inr h
theorem usd_snoc (ts : List (Nat × List Int)) (x : Nat × List Int) (i : Nat) : usd (ts ++ [x]) i = (usd ts i || (x.1 == i)) := by
  unfold usd
  rw [List.any_append]
  simp
end Go.Proofs.YtiolgenaefillaaGreat
