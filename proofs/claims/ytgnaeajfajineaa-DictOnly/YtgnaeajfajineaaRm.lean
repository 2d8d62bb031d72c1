/- Numbers as runs, and runs as numbers: plain facts, no program is named here. -/
import Derived.Test.YtgnaeajfajineaaCu2
namespace Go.Proofs.Ytgnaeajfajineaa

/-- a run of v that has k + 1 so far, and what stands behind it -/
def runR : Int → Nat → List Int → List Int
  | v, k, [] => gs v.toNat ++ gs k
  | v, k, x :: t => if x = v then runR v (k + 1) t else gs v.toNat ++ gs k ++ runR x 0 t
/-- numbers as runs -/
def runE : List Int → List Int
  | [] => []
  | x :: t => runR x 0 t
/-- t does not open with v -/
def Apart1 (v : Int) (t : List Int) : Prop := ∀ x r, t = x :: r → x ≠ v
theorem apart_nil (v : Int) : Apart1 v [] := fun x r h => by cases h

theorem runR_rep (v : Int) (i : Nat) : ∀ (k : Nat) (r : List Int), runR v k (List.replicate i v ++ r) = runR v (k + i) r := by
  induction i with
  | zero => intro k r; rfl
  | succ i ih =>
    intro k r
    rw [List.replicate_succ, List.cons_append, runR, if_pos rfl, ih, Nat.add_assoc, Nat.add_comm 1 i]
theorem runR_end {v : Int} {t : List Int} (h : Apart1 v t) (k : Nat) : runR v k t = gs v.toNat ++ gs k ++ runE t := by
  cases t with
  | nil => simp [runR, runE]
  | cons x r => rw [runR, if_neg (h x r rfl), runE]
theorem runE_first {v : Int} {t : List Int} (h : Apart1 v t) (m : Nat) : runE (List.replicate (m + 1) v ++ t) = gs v.toNat ++ gs m ++ runE t := by
  rw [List.replicate_succ, List.cons_append, runE, runR_rep, Nat.zero_add, runR_end h]
theorem run_split : ∀ (l : List Int), l ≠ [] → ∃ v m t, l = List.replicate (m + 1) v ++ t ∧ Apart1 v t
  | [], h => absurd rfl h
  | [x], _ => ⟨x, 0, [], rfl, apart_nil x⟩
  | x :: y :: t, _ => by
    obtain ⟨v, m, t', e, ha⟩ := run_split (y :: t) (by simp)
    by_cases h : x = v
    · exact ⟨v, m + 1, t', by rw [h, e, List.replicate_succ (n := m + 1)]; rfl, ha⟩
    · refine ⟨x, 0, y :: t, rfl, fun a r e2 => ?_⟩
      have : y = v := by
        rw [List.replicate_succ] at e
        simp at e
        exact e.1
      simp at e2
      rw [← e2.1, this]
      exact fun h2 => h h2.symm
/-- run by run -/
theorem run_ind {P : List Int → Prop} (h0 : P []) (h1 : ∀ v m t, Apart1 v t → P t → P (List.replicate (m + 1) v ++ t)) (l : List Int) : P l := by
  induction hn : l.length using Nat.strongRecOn generalizing l with
  | _ n ih =>
    by_cases hl : l = []
    · subst hl; exact h0
    · obtain ⟨v, m, t, rfl, ha⟩ := run_split l hl
      refine h1 v m t ha (ih t.length ?_ t rfl)
      rw [← hn, List.length_append, List.length_replicate]
      omega
theorem U64.tail {v : Int} {m : Nat} {t : List Int} (h : U64 (List.replicate (m + 1) v ++ t)) : U64 t := fun x hx => h x (by simp [hx])
theorem U64.head {v : Int} {m : Nat} {t : List Int} (h : U64 (List.replicate (m + 1) v ++ t)) : 0 ≤ v ∧ v ≤ 18446744073709551615 := h v (by simp)
theorem runE_range (l : List Int) : ∀ y ∈ runE l, 0 ≤ y ∧ y ≤ 255 := by
  induction l using run_ind with
  | h0 => intro y hy; cases hy
  | h1 v m t ha ih =>
    rw [runE_first ha]
    intro y hy
    rcases List.mem_append.1 hy with hy | hy
    · rcases List.mem_append.1 hy with hy | hy
      · exact gs_range _ y hy
      · exact gs_range _ y hy
    · exact ih y hy
theorem runE_len (l : List Int) : U64 l → l.length < 18446744073709551616 → (runE l).length ≤ 20 * l.length := by
  induction l using run_ind with
  | h0 => intro _ _; simp [runE]
  | h1 v m t ha ih =>
    intro hu hl
    rw [List.length_append, List.length_replicate] at hl
    have hv := hu.head
    have h1 := gs_le10 (v := v.toNat) (by omega)
    have h2 := gs_le10 (v := m) (by omega)
    have h3 := ih hu.tail (by omega)
    rw [runE_first ha, List.length_append, List.length_append, List.length_append, List.length_replicate]
    omega
theorem Apart1.app {v : Int} {t b : List Int} (h : Apart1 v t) (ht : t ≠ []) : Apart1 v (t ++ b) := by
  intro x r e
  cases t with
  | nil => exact absurd rfl ht
  | cons y s =>
    simp at e
    exact h x s (by rw [e.1])
/-- TWO LISTS, one behind the other -/
theorem runE_app {b : List Int} (hb : b ≠ []) (a : List Int) : a ≠ [] → a.getD (a.length - 1) 0 ≠ b.getD 0 0 → runE (a ++ b) = runE a ++ runE b := by
  induction a using run_ind with
  | h0 => intro h; exact absurd rfl h
  | h1 v m t ha ih =>
    intro _ hne
    by_cases ht : t = []
    · subst ht
      have hv : Apart1 v b := by
        intro x r e
        subst e
        intro h
        subst h
        apply hne
        simp [List.getD_eq_getElem?_getD]
      rw [List.append_nil, runE_first hv]
      have := runE_first (apart_nil v) m
      rw [List.append_nil] at this
      rw [this]
      simp [runE]
    · rw [List.append_assoc, runE_first (ha.app ht), runE_first ha, ih ht ?_, List.append_assoc, List.append_assoc, List.append_assoc]
      have hl : 0 < t.length := by cases t with
        | nil => exact absurd rfl ht
        | cons _ _ => simp
      have e : (List.replicate (m + 1) v ++ t).getD ((List.replicate (m + 1) v ++ t).length - 1) 0 = t.getD (t.length - 1) 0 := by
        rw [List.getD_eq_getElem?_getD, List.getD_eq_getElem?_getD, List.length_append, List.length_replicate, List.getElem?_append_right (by rw [List.length_replicate]; omega), List.length_replicate]
        congr 2
        omega
      rw [← e]; exact hne
/-- as many of one number -/
theorem runE_rep (v : Int) (m : Nat) : runE (List.replicate (m + 1) v) = gs v.toNat ++ gs m := by
  have := runE_first (apart_nil v) m
  rw [List.append_nil] at this
  rw [this]
  simp [runE]
/-- the first run ends where a number is another one -/
theorem runE_step {l : List Int} {i : Nat} (h0 : 0 < i) (hi : i < l.length) (hs : ∀ j, j < i → l.getD j 0 = l.getD 0 0) (hd : l.getD i 0 ≠ l.getD 0 0) : runE l = gs (l.getD 0 0).toNat ++ gs (i - 1) ++ runE (l.drop i) := by
  have e : l = List.replicate (i - 1 + 1) (l.getD 0 0) ++ l.drop i := by
    have ht : l.take i = List.replicate (i - 1 + 1) (l.getD 0 0) := by
      apply List.ext_getElem
      · rw [List.length_take, List.length_replicate]; omega
      · intro j h1 h2
        rw [List.length_take] at h1
        have := hs j (by omega)
        rw [List.getElem_take, List.getElem_replicate, ← this, List.getD_eq_getElem?_getD, List.getElem?_eq_getElem (by omega)]
        rfl
    rw [← ht, List.take_append_drop]
  have ha : Apart1 (l.getD 0 0) (l.drop i) := by
    intro x r e2
    have := List.drop_eq_getElem_cons hi
    rw [this] at e2
    injection e2 with e3 _
    rw [← e3]
    rw [List.getD_eq_getElem?_getD, List.getElem?_eq_getElem hi] at hd
    exact hd
  have key := runE_first ha (i - 1)
  rw [← e] at key
  exact key
theorem runE_all {l : List Int} (h0 : 0 < l.length) (hs : ∀ j, j < l.length → l.getD j 0 = l.getD 0 0) : runE l = gs (l.getD 0 0).toNat ++ gs (l.length - 1) := by
  have e : l = List.replicate (l.length - 1 + 1) (l.getD 0 0) := by
    apply List.ext_getElem
    · rw [List.length_replicate]; omega
    · intro j h1 h2
      have := hs j h1
      rw [List.getElem_replicate, ← this, List.getD_eq_getElem?_getD, List.getElem?_eq_getElem h1]
      rfl
  have key := runE_rep (l.getD 0 0) (l.length - 1)
  rw [← e] at key
  exact key

/-! what a varint tells -/
theorem sVarint_cases {ys : List Int} (hr : ∀ y ∈ ys, 0 ≤ y ∧ y ≤ 255) : (∃ c, sVarint ys = (0, 0, c) ∧ (c = 2 ∨ c = 3)) ∨ (∃ a k : Nat, sVarint ys = ((a : Int), k, 0) ∧ 1 ≤ k ∧ k ≤ ys.length ∧ a < 18446744073709551616 ∧ ys = gs a ++ ys.drop k) := by
  rcases rd_cases ys hr with ⟨c, h, hc⟩ | ⟨a, k, h, h1, h2, _, h4, h5⟩
  · exact .inl ⟨c, by rw [sVarint, h]; rfl, hc⟩
  · exact .inr ⟨a, k, by rw [sVarint, h]; rfl, h1, h2, h4, by rw [h5, List.take_append_drop]⟩
theorem sVarint_short (v k : Nat) (h : v < 18446744073709551616) (hk : k < (gs v).length) : sVarint ((gs v).take k) = (0, 0, 2) := by
  have := rd_short v 0 k 0 (by omega) (by simpa using h) hk
  rw [sVarint, this]
  rfl

/-! the other way round -/
/-- is v the number that acc ends with? -/
def runOn (acc : List Int) (v : Int) : Bool := decide (0 < acc.length) && (acc.getD (acc.length - 1) 0 == v)
/-- acc is had; what the bytes ys add to it, until there are n -/
def runD : Nat → List Int → List Int → Nat → List Int × Int
  | 0, _, _, _ => ([], 3)
  | f + 1, acc, ys, n =>
    if acc.length < n then
      if (sVarint ys).2.2 ≠ 0 then ([], (sVarint ys).2.2)
      else if (sVarint (ys.drop (sVarint ys).2.1)).2.2 ≠ 0 then ([], (sVarint (ys.drop (sVarint ys).2.1)).2.2)
      else if n - acc.length ≤ (sVarint (ys.drop (sVarint ys).2.1)).1.toNat ∨ runOn acc (sVarint ys).1 = true then ([], 3)
      else runD f (acc ++ List.replicate ((sVarint (ys.drop (sVarint ys).2.1)).1.toNat + 1) (sVarint ys).1) ((ys.drop (sVarint ys).2.1).drop (sVarint (ys.drop (sVarint ys).2.1)).2.1) n
    else if 0 < ys.length then ([], 3) else (acc, 0)
def runDec (ys : List Int) (n : Nat) : List Int × Int := runD (n + 1) [] ys n

theorem runD_done {f : Nat} {acc ys : List Int} {n : Nat} (h : ¬ acc.length < n) (hf : 0 < f) : runD f acc ys n = if 0 < ys.length then ([], 3) else (acc, 0) := by
  obtain ⟨g, rfl⟩ : ∃ g, f = g + 1 := ⟨f - 1, by omega⟩
  rw [runD, if_neg h]
theorem runD_err1 {f : Nat} {acc ys : List Int} {n : Nat} {a : Int} {k : Nat} {c : Int} (h : acc.length < n) (hf : 0 < f) (hs : sVarint ys = (a, k, c)) (hc : c ≠ 0) : runD f acc ys n = ([], c) := by
  obtain ⟨g, rfl⟩ : ∃ g, f = g + 1 := ⟨f - 1, by omega⟩
  rw [runD, if_pos h, hs, if_pos hc]
theorem runD_err2 {f : Nat} {acc ys : List Int} {n : Nat} {a b : Int} {k j : Nat} {c : Int} (h : acc.length < n) (hf : 0 < f) (hs : sVarint ys = (a, k, 0)) (hs2 : sVarint (ys.drop k) = (b, j, c)) (hc : c ≠ 0) : runD f acc ys n = ([], c) := by
  obtain ⟨g, rfl⟩ : ∃ g, f = g + 1 := ⟨f - 1, by omega⟩
  rw [runD, if_pos h, hs]
  simp only
  rw [hs2, if_neg (by simp), if_pos hc]
theorem runD_err3 {f : Nat} {acc ys : List Int} {n : Nat} {a : Int} {m k j : Nat} (h : acc.length < n) (hf : 0 < f) (hs : sVarint ys = (a, k, 0)) (hs2 : sVarint (ys.drop k) = ((m : Int), j, 0)) (hm : n - acc.length ≤ m ∨ runOn acc a = true) : runD f acc ys n = ([], 3) := by
  obtain ⟨g, rfl⟩ : ∃ g, f = g + 1 := ⟨f - 1, by omega⟩
  rw [runD, if_pos h, hs]
  simp only
  rw [hs2, if_neg (by simp)]
  simp only
  rw [if_neg (by simp), if_pos (by simpa using hm)]
theorem runD_next {f : Nat} {acc ys : List Int} {n : Nat} {a : Int} {m k j : Nat} (h : acc.length < n) (hf : 0 < f) (hs : sVarint ys = (a, k, 0)) (hs2 : sVarint (ys.drop k) = ((m : Int), j, 0)) (hm : m < n - acc.length) (ho : runOn acc a = false) :
    runD f acc ys n = runD (f - 1) (acc ++ List.replicate (m + 1) a) ((ys.drop k).drop j) n := by
  obtain ⟨g, rfl⟩ : ∃ g, f = g + 1 := ⟨f - 1, by omega⟩
  rw [runD, if_pos h, hs]
  simp only
  rw [hs2, if_neg (by simp)]
  simp only
  rw [if_neg (by simp), if_neg (by rw [ho]; simp; omega)]
  simp
/-- t may stand behind acc: it opens with another number than acc ends with -/
def Joins (acc t : List Int) : Prop := ∀ x r, t = x :: r → runOn acc x = false
theorem runOn_rep (acc : List Int) (v x : Int) (m : Nat) : runOn (acc ++ List.replicate (m + 1) v) x = (v == x) := by
  unfold runOn
  rw [List.length_append, List.length_replicate, decide_eq_true (by omega), Bool.true_and, List.getD_eq_getElem?_getD, List.getElem?_append_right (by omega)]
  rw [List.getElem?_replicate, if_pos (by omega)]
  rfl
theorem joins_rep {acc : List Int} {v : Int} {m : Nat} {t : List Int} : Joins (acc ++ List.replicate (m + 1) v) t ↔ Apart1 v t := by
  constructor
  · intro h x r e
    have := h x r e
    rw [runOn_rep] at this
    simp at this
    exact fun e2 => this e2.symm
  · intro h x r e
    rw [runOn_rep]
    have := h x r e
    simp
    exact fun e2 => this e2.symm
theorem joins_nil (t : List Int) : Joins [] t := fun _ _ _ => rfl

/-- WHAT IS DECODED WAS ENCODED. -/
theorem runD_only (f : Nat) : ∀ (acc ys : List Int) (n : Nat), (∀ y ∈ ys, 0 ≤ y ∧ y ≤ 255) → n - acc.length < f → acc.length ≤ n →
    (∃ c, runD f acc ys n = ([], c) ∧ (c = 2 ∨ c = 3)) ∨ (∃ t, runD f acc ys n = (acc ++ t, 0) ∧ acc.length + t.length = n ∧ ys = runE t ∧ U64 t ∧ Joins acc t) := by
  induction f with
  | zero => intro acc ys n _ h; omega
  | succ f ih =>
    intro acc ys n hr hf hn
    by_cases h : acc.length < n
    · rcases sVarint_cases hr with ⟨c, hs, hc⟩ | ⟨a, k, hs, k1, k2, ha, e1⟩
      · exact .inl ⟨c, runD_err1 h (by omega) hs (by omega), hc⟩
      · have hr2 : ∀ y ∈ ys.drop k, 0 ≤ y ∧ y ≤ 255 := fun y hy => hr y (List.mem_of_mem_drop hy)
        rcases sVarint_cases hr2 with ⟨c, hs2, hc⟩ | ⟨m, j, hs2, j1, j2, hm, e2⟩
        · exact .inl ⟨c, runD_err2 h (by omega) hs hs2 (by omega), hc⟩
        · by_cases hb : n - acc.length ≤ m ∨ runOn acc (a : Int) = true
          · exact .inl ⟨3, runD_err3 h (by omega) hs hs2 hb, .inr rfl⟩
          · have ho : runOn acc (a : Int) = false := by
              cases h3 : runOn acc (a : Int) with
              | false => rfl
              | true => exact absurd (.inr h3) hb
            rw [runD_next h (by omega) hs hs2 (by omega) ho]
            have hl : (acc ++ List.replicate (m + 1) (a : Int)).length = acc.length + (m + 1) := by rw [List.length_append, List.length_replicate]
            rcases ih (acc ++ List.replicate (m + 1) (a : Int)) ((ys.drop k).drop j) n (fun y hy => hr2 y (List.mem_of_mem_drop hy)) (by rw [hl]; omega) (by rw [hl]; omega) with ⟨c, h1, h2⟩ | ⟨t, h1, h2, h3, h4, h5⟩
            · exact .inl ⟨c, by simpa using h1, h2⟩
            · refine .inr ⟨List.replicate (m + 1) (a : Int) ++ t, by rw [← List.append_assoc]; simpa using h1, by rw [List.length_append, List.length_replicate]; omega, ?_, ?_, ?_⟩
              · rw [runE_first (joins_rep.1 h5), Int.toNat_natCast, ← h3, List.append_assoc, ← e2, ← e1]
              · intro x hx
                rcases List.mem_append.1 hx with hx | hx
                · have := List.eq_of_mem_replicate hx
                  omega
                · exact h4 x hx
              · intro x r e
                rw [List.replicate_succ] at e
                simp at e
                rw [← e.1]
                exact ho
    · rw [runD_done h (by omega)]
      by_cases hy : 0 < ys.length
      · rw [if_pos hy]; exact .inl ⟨3, rfl, .inr rfl⟩
      · rw [if_neg hy]
        have : ys = [] := List.eq_nil_of_length_eq_zero (by omega)
        subst this
        exact .inr ⟨[], by rw [List.append_nil], by simp; omega, rfl, (fun x hx => by cases hx), (fun x r e => by cases e)⟩

/-- DECODED OF WHAT WAS ENCODED, whatever stands behind. -/
theorem runD_enc (t : List Int) : ∀ (f : Nat) (acc z : List Int) (n : Nat), U64 t → n < 18446744073709551616 → acc.length + t.length = n → t.length < f → Joins acc t →
    runD f acc (runE t ++ z) n = if 0 < z.length then ([], 3) else (acc ++ t, 0) := by
  induction t using run_ind with
  | h0 =>
    intro f acc z n _ _ hn hf _
    simp at hn
    rw [runE, List.nil_append, runD_done (by omega) (by simpa using hf), List.append_nil]
  | h1 v m t ha ih =>
    intro f acc z n hu h64 hn hf hj
    rw [List.length_append, List.length_replicate] at hn hf
    have hv := hu.head
    obtain ⟨a, rfl⟩ := Int.eq_ofNat_of_zero_le hv.1
    rw [runE_first ha, Int.toNat_natCast]
    have e1 : gs a ++ gs m ++ runE t ++ z = gs a ++ (gs m ++ (runE t ++ z)) := by simp
    rw [e1]
    have hs := sVarint_gs a (gs m ++ (runE t ++ z)) (by omega)
    have ed : (gs a ++ (gs m ++ (runE t ++ z))).drop (gs a).length = gs m ++ (runE t ++ z) := by simp
    have hs2 := sVarint_gs m (runE t ++ z) (by omega)
    rw [← ed] at hs2
    rw [runD_next (by omega) (by omega) hs hs2 (by omega) (hj a (List.replicate m (a : Int) ++ t) (by rw [List.replicate_succ]; rfl)), ed]
    have ed2 : (gs m ++ (runE t ++ z)).drop (gs m).length = runE t ++ z := by simp
    rw [ed2, ih (f - 1) (acc ++ List.replicate (m + 1) (a : Int)) z n hu.tail h64 (by rw [List.length_append, List.length_replicate]; omega) (by omega) (joins_rep.2 ha), List.append_assoc]
theorem take_app (a b : List Int) (k : Nat) (h : a.length ≤ k) : (a ++ b).take k = a ++ b.take (k - a.length) := by
  rw [List.take_append, List.take_of_length_le h]
/-- CUT OFF it is too short. -/
theorem runD_cut (t : List Int) : ∀ (f : Nat) (acc : List Int) (n k : Nat), U64 t → n < 18446744073709551616 → acc.length + t.length = n → t.length < f → Joins acc t → k < (runE t).length →
    runD f acc ((runE t).take k) n = ([], 2) := by
  induction t using run_ind with
  | h0 => intro f acc n k _ _ _ _ _ hk; simp [runE] at hk
  | h1 v m t ha ih =>
    intro f acc n k hu h64 hn hf hj hk
    rw [List.length_append, List.length_replicate] at hn hf
    have hv := hu.head
    obtain ⟨a, rfl⟩ := Int.eq_ofNat_of_zero_le hv.1
    rw [runE_first ha, Int.toNat_natCast] at hk ⊢
    rw [List.append_assoc] at hk ⊢
    rcases Nat.lt_or_ge k (gs a).length with h1 | h1
    · have e : (gs a ++ (gs m ++ runE t)).take k = (gs a).take k := by rw [List.take_append_of_le_length (by omega)]
      rw [e]
      exact runD_err1 (by omega) (by omega) (sVarint_short a k (by omega) h1) (by decide)
    · rw [take_app _ _ _ h1]
      have hs := sVarint_gs a ((gs m ++ runE t).take (k - (gs a).length)) (by omega)
      have ed : (gs a ++ (gs m ++ runE t).take (k - (gs a).length)).drop (gs a).length = (gs m ++ runE t).take (k - (gs a).length) := by simp
      rw [List.length_append, List.length_append] at hk
      rcases Nat.lt_or_ge (k - (gs a).length) (gs m).length with h2 | h2
      · have e : (gs m ++ runE t).take (k - (gs a).length) = (gs m).take (k - (gs a).length) := by rw [List.take_append_of_le_length (by omega)]
        refine runD_err2 (by omega) (by omega) hs (b := 0) (j := 0) (c := 2) ?_ (by decide)
        rw [ed, e]
        exact sVarint_short m _ (by omega) h2
      · have hs2 := sVarint_gs m ((runE t).take (k - (gs a).length - (gs m).length)) (by omega)
        rw [take_app _ _ _ h2] at hs ed ⊢
        rw [← ed] at hs2
        rw [runD_next (by omega) (by omega) hs hs2 (by omega) (hj a (List.replicate m (a : Int) ++ t) (by rw [List.replicate_succ]; rfl)), ed]
        have ed2 : (gs m ++ (runE t).take (k - (gs a).length - (gs m).length)).drop (gs m).length = (runE t).take (k - (gs a).length - (gs m).length) := by simp
        rw [ed2]
        exact ih (f - 1) (acc ++ List.replicate (m + 1) (a : Int)) n _ hu.tail h64 (by rw [List.length_append, List.length_replicate]; omega) (by omega) (joins_rep.2 ha) (by omega)
/-- AS FEWER NUMBERS it is refused. -/
theorem runD_less (t : List Int) : ∀ (f : Nat) (acc : List Int) (n : Nat), U64 t → t.length < 18446744073709551616 → acc.length ≤ n → n < acc.length + t.length → n - acc.length < f → Joins acc t →
    runD f acc (runE t) n = ([], 3) := by
  induction t using run_ind with
  | h0 => intro f acc n _ _ h1 h2; simp at h2; omega
  | h1 v m t ha ih =>
    intro f acc n hu h64 hn hl hf hj
    rw [List.length_append, List.length_replicate] at hl h64
    have hv := hu.head
    obtain ⟨a, rfl⟩ := Int.eq_ofNat_of_zero_le hv.1
    rw [runE_first ha, Int.toNat_natCast]
    by_cases h : acc.length < n
    · rw [List.append_assoc]
      have hs := sVarint_gs a (gs m ++ runE t) (by omega)
      have ed : (gs a ++ (gs m ++ runE t)).drop (gs a).length = gs m ++ runE t := by simp
      have hs2 := sVarint_gs m (runE t) (by omega)
      rw [← ed] at hs2
      by_cases hm : n - acc.length ≤ m
      · exact runD_err3 h (by omega) hs hs2 (.inl hm)
      · rw [runD_next h (by omega) hs hs2 (by omega) (hj a (List.replicate m (a : Int) ++ t) (by rw [List.replicate_succ]; rfl)), ed]
        have ed2 : (gs m ++ runE t).drop (gs m).length = runE t := by simp
        rw [ed2]
        exact ih (f - 1) (acc ++ List.replicate (m + 1) (a : Int)) n hu.tail (by omega) (by rw [List.length_append, List.length_replicate]; omega) (by rw [List.length_append, List.length_replicate]; omega) (by rw [List.length_append, List.length_replicate]; omega) (joins_rep.2 ha)
    · rw [runD_done h (by omega), if_pos]
      rw [List.length_append, List.length_append]
      have := gs_pos a
      omega

/-! how many runs, how many bytes that end a number -/
def ends (l : List Int) : Nat := l.countP fun y => decide (y < 128)
theorem ends_gs (v : Nat) : ends (gs v) = 1 := by
  induction v using Nat.strongRecOn with
  | _ v ih =>
    rcases Nat.lt_or_ge v 128 with h | h
    · rw [gs_small h]
      simp [ends]
      omega
    · rw [gs_big h]
      have := ih (v / 128) (by omega)
      unfold ends at *
      rw [List.countP_cons_of_neg (by simp; omega), this]
/-- how many runs open in t, behind the number v -/
def opens : Int → List Int → Nat
  | _, [] => 0
  | v, x :: t => (if x = v then 0 else 1) + opens x t
theorem ends_runR (t : List Int) : ∀ (v : Int) (k : Nat), ends (runR v k t) = 2 + 2 * opens v t := by
  induction t with
  | nil => intro v k; rw [runR, opens]; unfold ends; rw [List.countP_append]; have h1 := ends_gs v.toNat; have h2 := ends_gs k; unfold ends at h1 h2; omega
  | cons x t ih =>
    intro v k
    rw [runR, opens]
    by_cases h : x = v
    · rw [if_pos h, if_pos h, ih, h]; omega
    · rw [if_neg h, if_neg h]
      have h3 := ih x 0
      unfold ends at *
      rw [List.countP_append, List.countP_append, h3]
      have h1 := ends_gs v.toNat
      have h2 := ends_gs k
      unfold ends at h1 h2
      omega
theorem opens_drop (l : List Int) (k : Nat) (h : k < l.length) (v : Int) : opens v (l.drop k) = (if l.getD k 0 = v then 0 else 1) + opens (l.getD k 0) (l.drop (k + 1)) := by
  rw [List.drop_eq_getElem_cons h, opens, List.getD_eq_getElem?_getD, List.getElem?_eq_getElem h]
  rfl
theorem ends_drop (l : List Int) (k : Nat) (h : k < l.length) : ends (l.drop k) = (if l.getD k 0 < 128 then 1 else 0) + ends (l.drop (k + 1)) := by
  rw [List.drop_eq_getElem_cons h, List.getD_eq_getElem?_getD, List.getElem?_eq_getElem h]
  unfold ends
  rw [List.countP_cons]
  simp [Nat.add_comm]
theorem ends_le (l : List Int) : ends l ≤ l.length := List.countP_le_length
theorem opens_le (t : List Int) : ∀ v, opens v t ≤ t.length := by
  induction t with
  | nil => intro v; simp [opens]
  | cons x t ih =>
    intro v
    rw [opens, List.length_cons]
    have := ih x
    split <;> omega
end Go.Proofs.Ytgnaeajfajineaa
