/- Several texts in one: Rm, Cu3, Sm, Sm2. -/
import Derived.Test.YtifbdjhbeanfaaaDoorG4

/- Numbers as runs, and runs as numbers: plain facts, no program is named here. -/
namespace Go.Proofs.YtifbdjhbeanfaaaDoor

/-- a run of v that has k + 1 so far, and what stands behind it -/
def runR : Int → Nat → List Int → List Int
  | v, k, [] => gs v.toNat ++ gs k
  | v, k, x :: t => if x = v then runR v (k + 1) t else gs v.toNat ++ gs k ++ runR x 0 t
/-- numbers as runs -/
def runE : List Int → List Int
  | [] => []
  | x :: t => runR x 0 t
/-- t does not open with v -/
def Apart1 (v : Int) (t : List Int) : Prop := ∀ x r, t = x :: r → x ≠ v
theorem apart_nil (v : Int) : Apart1 v [] := fun x r h => by cases h

theorem runR_rep (v : Int) (i : Nat) : ∀ (k : Nat) (r : List Int), runR v k (List.replicate i v ++ r) = runR v (k + i) r := by
  induction i with
  | zero => intro k r; rfl
  | succ i ih =>
    intro k r
    rw [List.replicate_succ, List.cons_append, runR, if_pos rfl, ih, Nat.add_assoc, Nat.add_comm 1 i]
theorem runR_end {v : Int} {t : List Int} (h : Apart1 v t) (k : Nat) : runR v k t = gs v.toNat ++ gs k ++ runE t := by
  cases t with
  | nil => simp [runR, runE]
  | cons x r => rw [runR, if_neg (h x r rfl), runE]
theorem runE_first {v : Int} {t : List Int} (h : Apart1 v t) (m : Nat) : runE (List.replicate (m + 1) v ++ t) = gs v.toNat ++ gs m ++ runE t := by
  rw [List.replicate_succ, List.cons_append, runE, runR_rep, Nat.zero_add, runR_end h]
theorem run_split : ∀ (l : List Int), l ≠ [] → ∃ v m t, l = List.replicate (m + 1) v ++ t ∧ Apart1 v t
  | [], h => absurd rfl h
  | [x], _ => ⟨x, 0, [], rfl, apart_nil x⟩
  | x :: y :: t, _ => by
    obtain ⟨v, m, t', e, ha⟩ := run_split (y :: t) (by simp)
    by_cases h : x = v
    · exact ⟨v, m + 1, t', by rw [h, e, List.replicate_succ (n := m + 1)]; rfl, ha⟩
    · refine ⟨x, 0, y :: t, rfl, fun a r e2 => ?_⟩
      have : y = v := by
        rw [List.replicate_succ] at e
        simp at e
        exact e.1
      simp at e2
      rw [← e2.1, this]
      exact fun h2 => h h2.symm
/-- run by run -/
theorem run_ind {P : List Int → Prop} (h0 : P []) (h1 : ∀ v m t, Apart1 v t → P t → P (List.replicate (m + 1) v ++ t)) (l : List Int) : P l := by
  induction hn : l.length using Nat.strongRecOn generalizing l with
  | _ n ih =>
    by_cases hl : l = []
    · subst hl; exact h0
    · obtain ⟨v, m, t, rfl, ha⟩ := run_split l hl
      refine h1 v m t ha (ih t.length ?_ t rfl)
      rw [← hn, List.length_append, List.length_replicate]
      omega
theorem U64.tail {v : Int} {m : Nat} {t : List Int} (h : U64 (List.replicate (m + 1) v ++ t)) : U64 t := fun x hx => h x (by simp [hx])
theorem U64.head {v : Int} {m : Nat} {t : List Int} (h : U64 (List.replicate (m + 1) v ++ t)) : 0 ≤ v ∧ v ≤ 18446744073709551615 := h v (by simp)
theorem runE_range (l : List Int) : ∀ y ∈ runE l, 0 ≤ y ∧ y ≤ 255 := by
  induction l using run_ind with
  | h0 => intro y hy; cases hy
  | h1 v m t ha ih =>
    rw [runE_first ha]
    intro y hy
    rcases List.mem_append.1 hy with hy | hy
    · rcases List.mem_append.1 hy with hy | hy
      · exact gs_range _ y hy
      · exact gs_range _ y hy
    · exact ih y hy
theorem runE_len (l : List Int) : U64 l → l.length < 18446744073709551616 → (runE l).length ≤ 20 * l.length := by
  induction l using run_ind with
  | h0 => intro _ _; simp [runE]
  | h1 v m t ha ih =>
    intro hu hl
    rw [List.length_append, List.length_replicate] at hl
    have hv := hu.head
    have h1 := gs_le10 (v := v.toNat) (by omega)
    have h2 := gs_le10 (v := m) (by omega)
    have h3 := ih hu.tail (by omega)
    rw [runE_first ha, List.length_append, List.length_append, List.length_append, List.length_replicate]
    omega
theorem Apart1.app {v : Int} {t b : List Int} (h : Apart1 v t) (ht : t ≠ []) : Apart1 v (t ++ b) := by
  intro x r e
  cases t with
  | nil => exact absurd rfl ht
  | cons y s =>
    simp at e
    exact h x s (by rw [e.1])
/-- TWO LISTS, one behind the other -/
theorem runE_app {b : List Int} (hb : b ≠ []) (a : List Int) : a ≠ [] → a.getD (a.length - 1) 0 ≠ b.getD 0 0 → runE (a ++ b) = runE a ++ runE b := by
  induction a using run_ind with
  | h0 => intro h; exact absurd rfl h
  | h1 v m t ha ih =>
    intro _ hne
    by_cases ht : t = []
    · subst ht
      have hv : Apart1 v b := by
        intro x r e
        subst e
        intro h
        subst h
        apply hne
        simp [List.getD_eq_getElem?_getD]
      rw [List.append_nil, runE_first hv]
      have := runE_first (apart_nil v) m
      rw [List.append_nil] at this
      rw [this]
      simp [runE]
    · rw [List.append_assoc, runE_first (ha.app ht), runE_first ha, ih ht ?_, List.append_assoc, List.append_assoc, List.append_assoc]
      have hl : 0 < t.length := by cases t with
        | nil => exact absurd rfl ht
        | cons _ _ => simp
      have e : (List.replicate (m + 1) v ++ t).getD ((List.replicate (m + 1) v ++ t).length - 1) 0 = t.getD (t.length - 1) 0 := by
        rw [List.getD_eq_getElem?_getD, List.getD_eq_getElem?_getD, List.length_append, List.length_replicate, List.getElem?_append_right (by rw [List.length_replicate]; omega), List.length_replicate]
        congr 2
        omega
      rw [← e]; exact hne
/-- as many of one number -/
theorem runE_rep (v : Int) (m : Nat) : runE (List.replicate (m + 1) v) = gs v.toNat ++ gs m := by
  have := runE_first (apart_nil v) m
  rw [List.append_nil] at this
  rw [this]
  simp [runE]
/-- the first run ends where a number is another one -/
theorem runE_step {l : List Int} {i : Nat} (h0 : 0 < i) (hi : i < l.length) (hs : ∀ j, j < i → l.getD j 0 = l.getD 0 0) (hd : l.getD i 0 ≠ l.getD 0 0) : runE l = gs (l.getD 0 0).toNat ++ gs (i - 1) ++ runE (l.drop i) := by
  have e : l = List.replicate (i - 1 + 1) (l.getD 0 0) ++ l.drop i := by
    have ht : l.take i = List.replicate (i - 1 + 1) (l.getD 0 0) := by
      apply List.ext_getElem
      · rw [List.length_take, List.length_replicate]; omega
      · intro j h1 h2
        rw [List.length_take] at h1
        have := hs j (by omega)
        rw [List.getElem_take, List.getElem_replicate, ← this, List.getD_eq_getElem?_getD, List.getElem?_eq_getElem (by omega)]
        rfl
    rw [← ht, List.take_append_drop]
  have ha : Apart1 (l.getD 0 0) (l.drop i) := by
    intro x r e2
    have := List.drop_eq_getElem_cons hi
    rw [this] at e2
    injection e2 with e3 _
    rw [← e3]
    rw [List.getD_eq_getElem?_getD, List.getElem?_eq_getElem hi] at hd
    exact hd
  have key := runE_first ha (i - 1)
  rw [← e] at key
  exact key
theorem runE_all {l : List Int} (h0 : 0 < l.length) (hs : ∀ j, j < l.length → l.getD j 0 = l.getD 0 0) : runE l = gs (l.getD 0 0).toNat ++ gs (l.length - 1) := by
  have e : l = List.replicate (l.length - 1 + 1) (l.getD 0 0) := by
    apply List.ext_getElem
    · rw [List.length_replicate]; omega
    · intro j h1 h2
      have := hs j h1
      rw [List.getElem_replicate, ← this, List.getD_eq_getElem?_getD, List.getElem?_eq_getElem h1]
      rfl
  have key := runE_rep (l.getD 0 0) (l.length - 1)
  rw [← e] at key
  exact key

/-! what a varint tells -/
theorem sVarint_cases {ys : List Int} (hr : ∀ y ∈ ys, 0 ≤ y ∧ y ≤ 255) : (∃ c, sVarint ys = (0, 0, c) ∧ (c = 2 ∨ c = 3)) ∨ (∃ a k : Nat, sVarint ys = ((a : Int), k, 0) ∧ 1 ≤ k ∧ k ≤ ys.length ∧ a < 18446744073709551616 ∧ ys = gs a ++ ys.drop k) := by
  rcases rd_cases ys hr with ⟨c, h, hc⟩ | ⟨a, k, h, h1, h2, _, h4, h5⟩
  · exact .inl ⟨c, by rw [sVarint, h]; rfl, hc⟩
  · exact .inr ⟨a, k, by rw [sVarint, h]; rfl, h1, h2, h4, by rw [h5, List.take_append_drop]⟩
theorem sVarint_short (v k : Nat) (h : v < 18446744073709551616) (hk : k < (gs v).length) : sVarint ((gs v).take k) = (0, 0, 2) := by
  have := rd_short v 0 k 0 (by omega) (by simpa using h) hk
  rw [sVarint, this]
  rfl

/-! the other way round -/
/-- is v the number that acc ends with? -/
def runOn (acc : List Int) (v : Int) : Bool := decide (0 < acc.length) && (acc.getD (acc.length - 1) 0 == v)
/-- acc is had; what the bytes ys add to it, until there are n -/
def runD : Nat → List Int → List Int → Nat → List Int × Int
  | 0, _, _, _ => ([], 3)
  | f + 1, acc, ys, n =>
    if acc.length < n then
      if (sVarint ys).2.2 ≠ 0 then ([], (sVarint ys).2.2)
      else if (sVarint (ys.drop (sVarint ys).2.1)).2.2 ≠ 0 then ([], (sVarint (ys.drop (sVarint ys).2.1)).2.2)
      else if n - acc.length ≤ (sVarint (ys.drop (sVarint ys).2.1)).1.toNat ∨ runOn acc (sVarint ys).1 = true then ([], 3)
      else runD f (acc ++ List.replicate ((sVarint (ys.drop (sVarint ys).2.1)).1.toNat + 1) (sVarint ys).1) ((ys.drop (sVarint ys).2.1).drop (sVarint (ys.drop (sVarint ys).2.1)).2.1) n
    else if 0 < ys.length then ([], 3) else (acc, 0)
def runDec (ys : List Int) (n : Nat) : List Int × Int := runD (n + 1) [] ys n

theorem runD_done {f : Nat} {acc ys : List Int} {n : Nat} (h : ¬ acc.length < n) (hf : 0 < f) : runD f acc ys n = if 0 < ys.length then ([], 3) else (acc, 0) := by
  obtain ⟨g, rfl⟩ : ∃ g, f = g + 1 := ⟨f - 1, by omega⟩
  rw [runD, if_neg h]
theorem runD_err1 {f : Nat} {acc ys : List Int} {n : Nat} {a : Int} {k : Nat} {c : Int} (h : acc.length < n) (hf : 0 < f) (hs : sVarint ys = (a, k, c)) (hc : c ≠ 0) : runD f acc ys n = ([], c) := by
  obtain ⟨g, rfl⟩ : ∃ g, f = g + 1 := ⟨f - 1, by omega⟩
  rw [runD, if_pos h, hs, if_pos hc]
theorem runD_err2 {f : Nat} {acc ys : List Int} {n : Nat} {a b : Int} {k j : Nat} {c : Int} (h : acc.length < n) (hf : 0 < f) (hs : sVarint ys = (a, k, 0)) (hs2 : sVarint (ys.drop k) = (b, j, c)) (hc : c ≠ 0) : runD f acc ys n = ([], c) := by
  obtain ⟨g, rfl⟩ : ∃ g, f = g + 1 := ⟨f - 1, by omega⟩
  rw [runD, if_pos h, hs]
  simp only
  rw [hs2, if_neg (by simp), if_pos hc]
theorem runD_err3 {f : Nat} {acc ys : List Int} {n : Nat} {a : Int} {m k j : Nat} (h : acc.length < n) (hf : 0 < f) (hs : sVarint ys = (a, k, 0)) (hs2 : sVarint (ys.drop k) = ((m : Int), j, 0)) (hm : n - acc.length ≤ m ∨ runOn acc a = true) : runD f acc ys n = ([], 3) := by
  obtain ⟨g, rfl⟩ : ∃ g, f = g + 1 := ⟨f - 1, by omega⟩
  rw [runD, if_pos h, hs]
  simp only
  rw [hs2, if_neg (by simp)]
  simp only
  rw [if_neg (by simp), if_pos (by simpa using hm)]
theorem runD_next {f : Nat} {acc ys : List Int} {n : Nat} {a : Int} {m k j : Nat} (h : acc.length < n) (hf : 0 < f) (hs : sVarint ys = (a, k, 0)) (hs2 : sVarint (ys.drop k) = ((m : Int), j, 0)) (hm : m < n - acc.length) (ho : runOn acc a = false) :
    runD f acc ys n = runD (f - 1) (acc ++ List.replicate (m + 1) a) ((ys.drop k).drop j) n := by
  obtain ⟨g, rfl⟩ : ∃ g, f = g + 1 := ⟨f - 1, by omega⟩
  rw [runD, if_pos h, hs]
  simp only
  rw [hs2, if_neg (by simp)]
  simp only
  rw [if_neg (by simp), if_neg (by rw [ho]; simp; omega)]
  simp
/-- t may stand behind acc: it opens with another number than acc ends with -/
def Joins (acc t : List Int) : Prop := ∀ x r, t = x :: r → runOn acc x = false
theorem runOn_rep (acc : List Int) (v x : Int) (m : Nat) : runOn (acc ++ List.replicate (m + 1) v) x = (v == x) := by
  unfold runOn
  rw [List.length_append, List.length_replicate, decide_eq_true (by omega), Bool.true_and, List.getD_eq_getElem?_getD, List.getElem?_append_right (by omega)]
  rw [List.getElem?_replicate, if_pos (by omega)]
  rfl
theorem joins_rep {acc : List Int} {v : Int} {m : Nat} {t : List Int} : Joins (acc ++ List.replicate (m + 1) v) t ↔ Apart1 v t := by
  constructor
  · intro h x r e
    have := h x r e
    rw [runOn_rep] at this
    simp at this
    exact fun e2 => this e2.symm
  · intro h x r e
    rw [runOn_rep]
    have := h x r e
    simp
    exact fun e2 => this e2.symm
theorem joins_nil (t : List Int) : Joins [] t := fun _ _ _ => rfl

/-- WHAT IS DECODED WAS ENCODED. -/
theorem runD_only (f : Nat) : ∀ (acc ys : List Int) (n : Nat), (∀ y ∈ ys, 0 ≤ y ∧ y ≤ 255) → n - acc.length < f → acc.length ≤ n →
    (∃ c, runD f acc ys n = ([], c) ∧ (c = 2 ∨ c = 3)) ∨ (∃ t, runD f acc ys n = (acc ++ t, 0) ∧ acc.length + t.length = n ∧ ys = runE t ∧ U64 t ∧ Joins acc t) := by
  induction f with
  | zero => intro acc ys n _ h; omega
  | succ f ih =>
    intro acc ys n hr hf hn
    by_cases h : acc.length < n
    · rcases sVarint_cases hr with ⟨c, hs, hc⟩ | ⟨a, k, hs, k1, k2, ha, e1⟩
      · exact .inl ⟨c, runD_err1 h (by omega) hs (by omega), hc⟩
      · have hr2 : ∀ y ∈ ys.drop k, 0 ≤ y ∧ y ≤ 255 := fun y hy => hr y (List.mem_of_mem_drop hy)
        rcases sVarint_cases hr2 with ⟨c, hs2, hc⟩ | ⟨m, j, hs2, j1, j2, hm, e2⟩
        · exact .inl ⟨c, runD_err2 h (by omega) hs hs2 (by omega), hc⟩
        · by_cases hb : n - acc.length ≤ m ∨ runOn acc (a : Int) = true
          · exact .inl ⟨3, runD_err3 h (by omega) hs hs2 hb, .inr rfl⟩
          · have ho : runOn acc (a : Int) = false := by
              cases h3 : runOn acc (a : Int) with
              | false => rfl
              | true => exact absurd (.inr h3) hb
            rw [runD_next h (by omega) hs hs2 (by omega) ho]
            have hl : (acc ++ List.replicate (m + 1) (a : Int)).length = acc.length + (m + 1) := by rw [List.length_append, List.length_replicate]
            rcases ih (acc ++ List.replicate (m + 1) (a : Int)) ((ys.drop k).drop j) n (fun y hy => hr2 y (List.mem_of_mem_drop hy)) (by rw [hl]; omega) (by rw [hl]; omega) with ⟨c, h1, h2⟩ | ⟨t, h1, h2, h3, h4, h5⟩
            · exact .inl ⟨c, by simpa using h1, h2⟩
            · refine .inr ⟨List.replicate (m + 1) (a : Int) ++ t, by rw [← List.append_assoc]; simpa using h1, by rw [List.length_append, List.length_replicate]; omega, ?_, ?_, ?_⟩
              · rw [runE_first (joins_rep.1 h5), Int.toNat_natCast, ← h3, List.append_assoc, ← e2, ← e1]
              · intro x hx
                rcases List.mem_append.1 hx with hx | hx
                · have := List.eq_of_mem_replicate hx
                  omega
                · exact h4 x hx
              · intro x r e
                rw [List.replicate_succ] at e
                simp at e
                rw [← e.1]
                exact ho
    · rw [runD_done h (by omega)]
      by_cases hy : 0 < ys.length
      · rw [if_pos hy]; exact .inl ⟨3, rfl, .inr rfl⟩
      · rw [if_neg hy]
        have : ys = [] := List.eq_nil_of_length_eq_zero (by omega)
        subst this
        exact .inr ⟨[], by rw [List.append_nil], by simp; omega, rfl, (fun x hx => by cases hx), (fun x r e => by cases e)⟩

/-- DECODED OF WHAT WAS ENCODED, whatever stands behind. -/
theorem runD_enc (t : List Int) : ∀ (f : Nat) (acc z : List Int) (n : Nat), U64 t → n < 18446744073709551616 → acc.length + t.length = n → t.length < f → Joins acc t →
    runD f acc (runE t ++ z) n = if 0 < z.length then ([], 3) else (acc ++ t, 0) := by
  induction t using run_ind with
  | h0 =>
    intro f acc z n _ _ hn hf _
    simp at hn
    rw [runE, List.nil_append, runD_done (by omega) (by simpa using hf), List.append_nil]
  | h1 v m t ha ih =>
    intro f acc z n hu h64 hn hf hj
    rw [List.length_append, List.length_replicate] at hn hf
    have hv := hu.head
    obtain ⟨a, rfl⟩ := Int.eq_ofNat_of_zero_le hv.1
    rw [runE_first ha, Int.toNat_natCast]
    have e1 : gs a ++ gs m ++ runE t ++ z = gs a ++ (gs m ++ (runE t ++ z)) := by simp
    rw [e1]
    have hs := sVarint_gs a (gs m ++ (runE t ++ z)) (by omega)
    have ed : (gs a ++ (gs m ++ (runE t ++ z))).drop (gs a).length = gs m ++ (runE t ++ z) := by simp
    have hs2 := sVarint_gs m (runE t ++ z) (by omega)
    rw [← ed] at hs2
    rw [runD_next (by omega) (by omega) hs hs2 (by omega) (hj a (List.replicate m (a : Int) ++ t) (by rw [List.replicate_succ]; rfl)), ed]
    have ed2 : (gs m ++ (runE t ++ z)).drop (gs m).length = runE t ++ z := by simp
    rw [ed2, ih (f - 1) (acc ++ List.replicate (m + 1) (a : Int)) z n hu.tail h64 (by rw [List.length_append, List.length_replicate]; omega) (by omega) (joins_rep.2 ha), List.append_assoc]
theorem take_app (a b : List Int) (k : Nat) (h : a.length ≤ k) : (a ++ b).take k = a ++ b.take (k - a.length) := by
  rw [List.take_append, List.take_of_length_le h]
/-- CUT OFF it is too short. -/
theorem runD_cut (t : List Int) : ∀ (f : Nat) (acc : List Int) (n k : Nat), U64 t → n < 18446744073709551616 → acc.length + t.length = n → t.length < f → Joins acc t → k < (runE t).length →
    runD f acc ((runE t).take k) n = ([], 2) := by
  induction t using run_ind with
  | h0 => intro f acc n k _ _ _ _ _ hk; simp [runE] at hk
  | h1 v m t ha ih =>
    intro f acc n k hu h64 hn hf hj hk
    rw [List.length_append, List.length_replicate] at hn hf
    have hv := hu.head
    obtain ⟨a, rfl⟩ := Int.eq_ofNat_of_zero_le hv.1
    rw [runE_first ha, Int.toNat_natCast] at hk ⊢
    rw [List.append_assoc] at hk ⊢
    rcases Nat.lt_or_ge k (gs a).length with h1 | h1
    · have e : (gs a ++ (gs m ++ runE t)).take k = (gs a).take k := by rw [List.take_append_of_le_length (by omega)]
      rw [e]
      exact runD_err1 (by omega) (by omega) (sVarint_short a k (by omega) h1) (by decide)
    · rw [take_app _ _ _ h1]
      have hs := sVarint_gs a ((gs m ++ runE t).take (k - (gs a).length)) (by omega)
      have ed : (gs a ++ (gs m ++ runE t).take (k - (gs a).length)).drop (gs a).length = (gs m ++ runE t).take (k - (gs a).length) := by simp
      rw [List.length_append, List.length_append] at hk
      rcases Nat.lt_or_ge (k - (gs a).length) (gs m).length with h2 | h2
      · have e : (gs m ++ runE t).take (k - (gs a).length) = (gs m).take (k - (gs a).length) := by rw [List.take_append_of_le_length (by omega)]
        refine runD_err2 (by omega) (by omega) hs (b := 0) (j := 0) (c := 2) ?_ (by decide)
        rw [ed, e]
        exact sVarint_short m _ (by omega) h2
      · have hs2 := sVarint_gs m ((runE t).take (k - (gs a).length - (gs m).length)) (by omega)
        rw [take_app _ _ _ h2] at hs ed ⊢
        rw [← ed] at hs2
        rw [runD_next (by omega) (by omega) hs hs2 (by omega) (hj a (List.replicate m (a : Int) ++ t) (by rw [List.replicate_succ]; rfl)), ed]
        have ed2 : (gs m ++ (runE t).take (k - (gs a).length - (gs m).length)).drop (gs m).length = (runE t).take (k - (gs a).length - (gs m).length) := by simp
        rw [ed2]
        exact ih (f - 1) (acc ++ List.replicate (m + 1) (a : Int)) n _ hu.tail h64 (by rw [List.length_append, List.length_replicate]; omega) (by omega) (joins_rep.2 ha) (by omega)
/-- AS FEWER NUMBERS it is refused. -/
theorem runD_less (t : List Int) : ∀ (f : Nat) (acc : List Int) (n : Nat), U64 t → t.length < 18446744073709551616 → acc.length ≤ n → n < acc.length + t.length → n - acc.length < f → Joins acc t →
    runD f acc (runE t) n = ([], 3) := by
  induction t using run_ind with
  | h0 => intro f acc n _ _ h1 h2; simp at h2; omega
  | h1 v m t ha ih =>
    intro f acc n hu h64 hn hl hf hj
    rw [List.length_append, List.length_replicate] at hl h64
    have hv := hu.head
    obtain ⟨a, rfl⟩ := Int.eq_ofNat_of_zero_le hv.1
    rw [runE_first ha, Int.toNat_natCast]
    by_cases h : acc.length < n
    · rw [List.append_assoc]
      have hs := sVarint_gs a (gs m ++ runE t) (by omega)
      have ed : (gs a ++ (gs m ++ runE t)).drop (gs a).length = gs m ++ runE t := by simp
      have hs2 := sVarint_gs m (runE t) (by omega)
      rw [← ed] at hs2
      by_cases hm : n - acc.length ≤ m
      · exact runD_err3 h (by omega) hs hs2 (.inl hm)
      · rw [runD_next h (by omega) hs hs2 (by omega) (hj a (List.replicate m (a : Int) ++ t) (by rw [List.replicate_succ]; rfl)), ed]
        have ed2 : (gs m ++ runE t).drop (gs m).length = runE t := by simp
        rw [ed2]
        exact ih (f - 1) (acc ++ List.replicate (m + 1) (a : Int)) n hu.tail (by omega) (by rw [List.length_append, List.length_replicate]; omega) (by rw [List.length_append, List.length_replicate]; omega) (by rw [List.length_append, List.length_replicate]; omega) (joins_rep.2 ha)
    · rw [runD_done h (by omega), if_pos]
      rw [List.length_append, List.length_append]
      have := gs_pos a
      omega

/-! how many runs, how many bytes that end a number -/
def ends (l : List Int) : Nat := l.countP fun y => decide (y < 128)
theorem ends_gs (v : Nat) : ends (gs v) = 1 := by
  induction v using Nat.strongRecOn with
  | _ v ih =>
    rcases Nat.lt_or_ge v 128 with h | h
    · rw [gs_small h]
      simp [ends]
      omega
    · rw [gs_big h]
      have := ih (v / 128) (by omega)
      unfold ends at *
      rw [List.countP_cons_of_neg (by simp; omega), this]
/-- how many runs open in t, behind the number v -/
def opens : Int → List Int → Nat
  | _, [] => 0
  | v, x :: t => (if x = v then 0 else 1) + opens x t
theorem ends_runR (t : List Int) : ∀ (v : Int) (k : Nat), ends (runR v k t) = 2 + 2 * opens v t := by
  induction t with
  | nil => intro v k; rw [runR, opens]; unfold ends; rw [List.countP_append]; have h1 := ends_gs v.toNat; have h2 := ends_gs k; unfold ends at h1 h2; omega
  | cons x t ih =>
    intro v k
    rw [runR, opens]
    by_cases h : x = v
    · rw [if_pos h, if_pos h, ih, h]; omega
    · rw [if_neg h, if_neg h]
      have h3 := ih x 0
      unfold ends at *
      rw [List.countP_append, List.countP_append, h3]
      have h1 := ends_gs v.toNat
      have h2 := ends_gs k
      unfold ends at h1 h2
      omega
theorem opens_drop (l : List Int) (k : Nat) (h : k < l.length) (v : Int) : opens v (l.drop k) = (if l.getD k 0 = v then 0 else 1) + opens (l.getD k 0) (l.drop (k + 1)) := by
  rw [List.drop_eq_getElem_cons h, opens, List.getD_eq_getElem?_getD, List.getElem?_eq_getElem h]
  rfl
theorem ends_drop (l : List Int) (k : Nat) (h : k < l.length) : ends (l.drop k) = (if l.getD k 0 < 128 then 1 else 0) + ends (l.drop (k + 1)) := by
  rw [List.drop_eq_getElem_cons h, List.getD_eq_getElem?_getD, List.getElem?_eq_getElem h]
  unfold ends
  rw [List.countP_cons]
  simp [Nat.add_comm]
theorem ends_le (l : List Int) : ends l ≤ l.length := List.countP_le_length
theorem opens_le (t : List Int) : ∀ v, opens v t ≤ t.length := by
  induction t with
  | nil => intro v; simp [opens]
  | cons x t ih =>
    intro v
    rw [opens, List.length_cons]
    have := ih x
    split <;> omega
end Go.Proofs.YtifbdjhbeanfaaaDoor

/- Contracts of package cursor: Fix, and Block of bytes. -/
namespace Go.Proofs.YtifbdjhbeanfaaaDoor
open Go.RowKit

/-- byte i of a number, the lowest one being 0 -/
def fixB (v : Int) (i : Nat) : Int := v / 2 ^ (8 * i) % 256
/-- n bytes, of which the k last are written -/
def fixAt (v : Int) (n k : Nat) : List Int := (List.range n).map fun j => if n ≤ j + k then fixB v (n - 1 - j) else 0
def fixL (v : Int) (n : Nat) : List Int := (List.range n).map fun j => fixB v (n - 1 - j)
theorem fixAt_len (v : Int) (n k : Nat) : (fixAt v n k).length = n := by simp [fixAt]
theorem fixL_len (v : Int) (n : Nat) : (fixL v n).length = n := by simp [fixL]
theorem fixAt_zero (v : Int) (n : Nat) : (fixAt v n 0).map (Value.int .u8) = (madeCells #[Value.int .u8 0] (n * 1)).toList := by
  apply List.ext_getElem?
  intro i
  by_cases h : i < n
  · simp [fixAt, madeCells, h, Nat.mod_one]
    omega
  · simp [fixAt, madeCells, h]
theorem fixAt_all (v : Int) (n : Nat) : fixAt v n n = fixL v n := by
  unfold fixAt fixL
  apply List.map_congr_left
  intro j _
  rw [if_pos (by omega)]
theorem fixAt_step (v : Int) (n k : Nat) (h : k < n) : (fixAt v n k).set (n - 1 - k) (fixB v k) = fixAt v n (k + 1) := by
  apply List.ext_getElem?
  intro i
  rw [List.getElem?_set, fixAt_len]
  by_cases hi : i < n
  · by_cases he : n - 1 - k = i
    · subst he
      rw [if_pos rfl, if_pos hi]
      simp only [fixAt, List.getElem?_map, List.getElem?_range hi, Option.map_some]
      rw [if_pos (by omega), show n - 1 - (n - 1 - k) = k by omega]
    · rw [if_neg he]
      simp only [fixAt, List.getElem?_map, List.getElem?_range hi, Option.map_some]
      by_cases h1 : n ≤ i + k
      · rw [if_pos h1, if_pos (by omega)]
      · rw [if_neg h1, if_neg (by omega)]
  · rw [if_neg (by omega), List.getElem?_eq_none (by rw [fixAt_len]; omega), List.getElem?_eq_none (by rw [fixAt_len]; omega)]
theorem fixB_range (v : Int) (i : Nat) : 0 ≤ fixB v i ∧ fixB v i ≤ 255 := by unfold fixB; omega
theorem fixL_range (v : Int) (n : Nat) : ∀ y ∈ fixL v n, 0 ≤ y ∧ y ≤ 255 := by
  intro y hy
  simp only [fixL, List.mem_map] at hy
  obtain ⟨j, _, rfl⟩ := hy
  exact fixB_range _ _

set_option maxHeartbeats 400000 in
set_option maxRecDepth 100000 in
theorem fix_none (v n : Int) (w : World) (h : n < 0 ∨ 8 < n) : Calls Tryd.prog 34 #[.int .u64 v, .int .i64 n] w fun e w' => e = .returned (.slice none 0 0) ∧ w = w' := by
  by_cases h0 : n < 0
  · clear h
    go_enter Tryd.func34, Tryd.ntmps34
    go_wp2
    go_ret
    exact ⟨rfl, rfl⟩
  · have h8 : 8 < n := by omega
    have d0 : decide (n < 0) = false := decide_eq_false h0
    clear h
    go_enter Tryd.func34, Tryd.ntmps34
    go_wp2
    go_ret
    exact ⟨rfl, rfl⟩

set_option maxHeartbeats 400000 in
set_option maxRecDepth 100000 in
/-- A NUMBER in so many bytes: new memory. -/
theorem fix_any (v : Int) (n : Nat) (w : World) (h : n ≤ 8) :
    Calls Tryd.prog 34 #[.int .u64 v, .int .i64 n] w fun e w' => ∃ u, e = .returned u ∧ w'.ownsRow w.heap.size 5 1 u (fixL v n).length ((fixL v n).map (Value.int .u8)) ∧ Only (fun _ => False) w w' := by
  obtain ⟨i0, hi, hz0, hz1, hz2⟩ := info_parts Tryd.infoU8
  obtain ⟨wm, hmk, hown0, hgr⟩ := run_make_full (P := Tryd.prog) w w.heap.size 24 5 i0 (.int .u8 0) 1 Tryd.underlying24 hi hz0 hz1 .i64 .i64 n (by rw [hz2]; omega) (by unfold maxLen; omega) (Nat.le_refl _)
  have START : Hid (wm.ownsRow w.heap.size 5 1 (.slice (some ⟨w.heap.size, 0, none⟩) n n) n ((fixAt v n 0).map (Value.int .u8)) ∧ Only (fun _ => False) w wm) := by
    rw [show (Value.int .u8 0).cells = #[Value.int .u8 0] from rfl] at hown0
    rw [fixAt_zero]
    exact ⟨hown0, (Only.refl _ _).grown hgr (fun _ _ e => by cases e)⟩
  clear hown0 hgr
  have d0 : decide ((n : Int) < 0) = false := by simp
  have d8 : decide (8 < (n : Int)) = false := decide_eq_false (by omega)
  obtain ⟨N, hN⟩ : ∃ N, N = w.heap.size := ⟨_, rfl⟩
  rw [← hN] at hmk START
  rw [← hN]
  have HN := hideIt hN
  clear hN
  go_enter Tryd.func34, Tryd.ntmps34
  go_wp2
  go_loopw [17] (fun i wr => ∃ k : Nat, k ≤ n ∧ i = .int .i64 k ∧ wr.ownsRow N 5 1 (.slice (some ⟨N, 0, none⟩) n n) n ((fixAt v n k).map (Value.int .u8)) ∧ Only (fun _ => False) w wr) (fun i _ => n - (intOf i).toNat)
  case atStart => exact ⟨0, Nat.zero_le _, rfl, START.out.1, START.out.2⟩
  case round =>
    obtain ⟨k, hk, rfl, hown, hon⟩ := hrel
    clear START hmk
    by_cases hlt : k < n
    · have hcell : ∃ y, wr.cell? ⟨N, n - 1 - k, none⟩ = some (.int .u8 y) := by
        refine ⟨(fixAt v n k).getD (n - 1 - k) 0, ?_⟩
        rw [hown.cellAt (n - 1 - k) (by omega), List.getElem?_map, List.getElem?_eq_getElem (by rw [fixAt_len]; omega), List.getD_eq_getElem?_getD, List.getElem?_eq_getElem (by rw [fixAt_len]; omega)]
        rfl
      obtain ⟨y, hy⟩ := hcell
      have hfr : wr.frozen? ⟨N, n - 1 - k, none⟩ = false := hown.frozenAt _
      have i0 : (0 : Int) ≤ (n : Int) - 1 - k := by omega
      have i1 : (n : Int) - 1 - k < (n : Int) := by omega
      have it : ((n : Int) - 1 - k).toNat = n - 1 - k := by omega
      have H := hideIt (And.intro hown hon)
      clear hown hon
      go_wp2
      go_roundw
      case rel =>
        refine ⟨k + 1, by omega, by go_num, ?_, ?_⟩
        · have h1 := (H.out.1.stored (n - 1 - k) (.int .u8 (fixB v k))).1
          rw [← List.map_set, fixAt_step v n k hlt] at h1
          exact h1
        · refine H.out.2.setCell (fun hb => ?_) _
          have := HN.out
          simp only at hb
          omega
      case measure => simp [intOf]; omega
    · have hkn : k = n := by omega
      subst hkn
      have H := hideIt (And.intro hown hon)
      clear hown hon
      go_wp2
      go_ret
      rw [fixL_len, ← fixAt_all]
      exact ⟨_, rfl, H.out⟩

/-- bytes behind their number -/
def blk (b : List Int) : List Int := gs b.length ++ b
theorem blk_len (b : List Int) (h : b.length ≤ 1000000) : (blk b).length ≤ b.length + 10 := by
  have := gs_le10 (v := b.length) (by omega)
  simp only [blk, List.length_append]
  omega
theorem blk_range (b : List Int) (hr : ∀ y ∈ b, 0 ≤ y ∧ y ≤ 255) : ∀ y ∈ blk b, 0 ≤ y ∧ y ≤ 255 := by
  intro y hy
  simp only [blk, List.mem_append] at hy
  rcases hy with hy | hy
  · exact gs_range _ y hy
  · exact hr y hy

end Go.Proofs.YtifbdjhbeanfaaaDoor

/- Package simple as plain mathematics: sorts, the least one that fits, words, what is written and what is read. -/
namespace Go.Proofs.YtifbdjhbeanfaaaDoor
open Go.RowKit

/-- the sorts: how many numbers, of how many bits -/
def tab : List (Nat × Nat) := [(240, 0), (120, 0), (60, 1), (30, 2), (20, 3), (15, 4), (12, 5), (10, 6), (8, 7), (7, 8), (6, 10), (5, 12), (4, 15), (3, 20), (2, 30), (1, 60)]
def cn (s : Nat) : Nat := (tab.getD s (0, 0)).1
def wi (s : Nat) : Nat := (tab.getD s (0, 0)).2
theorem sort_all : ∀ s : Fin 16, 1 ≤ cn s.val ∧ cn s.val ≤ 240 ∧ wi s.val ≤ 60 ∧ cn s.val * wi s.val ≤ 60 ∧ (s.val < 15 → wi s.val ≤ 30 ∧ 2 ≤ cn s.val) := by decide +kernel
theorem sort_at (s : Nat) (h : s < 16) : 1 ≤ cn s ∧ cn s ≤ 240 ∧ wi s ≤ 60 ∧ cn s * wi s ≤ 60 ∧ (s < 15 → wi s ≤ 30 ∧ 2 ≤ cn s) := sort_all ⟨s, h⟩

/-- numbers below 2^w -/
def Up (w : Nat) (xs : List Int) : Prop := ∀ x ∈ xs, 0 ≤ x ∧ x < 2 ^ w
theorem pow_mono {a b : Nat} (h : a ≤ b) : (2 : Int) ^ a ≤ 2 ^ b := by
  have : 2 ^ a ≤ 2 ^ b := Nat.pow_le_pow_right (by omega) h
  have e1 : ((2 ^ a : Nat) : Int) = 2 ^ a := by simp
  have e2 : ((2 ^ b : Nat) : Int) = 2 ^ b := by simp
  omega
theorem Up.mono {a b : Nat} {xs : List Int} (h : Up a xs) (hab : a ≤ b) : Up b xs := fun x hx => ⟨(h x hx).1, Int.lt_of_lt_of_le (h x hx).2 (pow_mono hab)⟩
theorem Up.take {a : Nat} {xs : List Int} (h : Up a xs) (n : Nat) : Up a (xs.take n) := fun x hx => h x (List.mem_of_mem_take hx)
theorem Up.drop {a : Nat} {xs : List Int} (h : Up a xs) (n : Nat) : Up a (xs.drop n) := fun x hx => h x (List.mem_of_mem_drop hx)
theorem Up.nil (a : Nat) : Up a [] := fun x hx => by cases hx
theorem Up.append {a : Nat} {xs ys : List Int} (h : Up a xs) (k : Up a ys) : Up a (xs ++ ys) := fun x hx => by
  rcases List.mem_append.1 hx with hx | hx
  · exact h x hx
  · exact k x hx

/-- are all below 2^w? -/
def small (w : Nat) (xs : List Int) : Bool := xs.all fun x => decide (x < 2 ^ w)
theorem small_up {w : Nat} {xs : List Int} (h : small w xs = true) (h0 : ∀ x ∈ xs, 0 ≤ x) : Up w xs := fun x hx => ⟨h0 x hx, by
  have := List.all_eq_true.1 h x hx
  simpa using this⟩
theorem up_small {w : Nat} {xs : List Int} (h : Up w xs) : small w xs = true := by
  unfold small
  rw [List.all_eq_true]
  intro x hx
  simpa using (h x hx).2
theorem small_snoc (w : Nat) (xs : List Int) (x : Int) : small w (xs ++ [x]) = (small w xs && decide (x < 2 ^ w)) := by simp [small]
theorem small_no {w : Nat} {xs : List Int} {k : Nat} (hk : k < xs.length) (h : ¬ xs.getD k 0 < 2 ^ w) : small w xs = false := by
  rw [Bool.eq_false_iff]
  intro hs
  have := List.all_eq_true.1 hs (xs.getD k 0) (by rw [List.getD_eq_getElem?_getD, List.getElem?_eq_getElem hk]; simp)
  simp only [decide_eq_true_eq] at this
  exact h this

/-- does what xs begins with fit the sort s? -/
def fitB (xs : List Int) (s : Nat) : Bool := decide (cn s ≤ xs.length) && small (wi s) (xs.take (cn s))
def leastF : Nat → Nat → List Int → Nat
  | 0, s, _ => s
  | f + 1, s, xs => if fitB xs s = true then s else leastF f (s + 1) xs
/-- the least sort that fits -/
def least (xs : List Int) : Nat := leastF 15 0 xs
theorem fit15 {xs : List Int} (h : xs ≠ []) (hu : Up 60 xs) : fitB xs 15 = true := by
  have : 0 < xs.length := List.length_pos_iff.2 h
  have e1 : cn 15 = 1 := rfl
  have e2 : wi 15 = 60 := rfl
  unfold fitB
  rw [e1, e2, up_small (hu.take 1)]
  simp; omega
theorem leastF_hit {xs : List Int} {s : Nat} (h : fitB xs s = true) (f : Nat) : leastF f s xs = s := by
  cases f with
  | zero => rfl
  | succ f => simp [leastF, h]
theorem leastF_miss {xs : List Int} {s : Nat} (h : fitB xs s = false) (hs : s < 15) : leastF (15 - s) s xs = leastF (15 - (s + 1)) (s + 1) xs := by
  obtain ⟨f, hf⟩ : ∃ f, 15 - s = f + 1 := ⟨14 - s, by omega⟩
  rw [hf, show 15 - (s + 1) = f by omega]
  simp [leastF, h]
theorem leastF_fits {xs : List Int} (h : fitB xs 15 = true) : ∀ f s, s + f = 15 → leastF f s xs < 16 ∧ fitB xs (leastF f s xs) = true
  | 0, s, e => by
    obtain rfl : s = 15 := by omega
    exact ⟨by simp [leastF], h⟩
  | f + 1, s, e => by
    by_cases hs : fitB xs s = true
    · rw [leastF_hit hs]
      exact ⟨by omega, hs⟩
    · have : leastF (f + 1) s xs = leastF f (s + 1) xs := by simp [leastF, hs]
      rw [this]
      exact leastF_fits h f (s + 1) (by omega)
theorem least_fits {xs : List Int} (h : xs ≠ []) (hu : Up 60 xs) : least xs < 16 ∧ cn (least xs) ≤ xs.length ∧ Up (wi (least xs)) (xs.take (cn (least xs))) := by
  obtain ⟨h1, h2⟩ := leastF_fits (fit15 h hu) 15 0 rfl
  unfold fitB at h2
  rw [Bool.and_eq_true, decide_eq_true_eq] at h2
  exact ⟨h1, h2.1, small_up h2.2 (fun x hx => (hu.take _ x hx).1)⟩
/-- a number of more than 30 bits stands alone -/
theorem least_great {x : Int} {t : List Int} (h : 2 ^ 30 ≤ x) : least (x :: t) = 15 := by
  have no : ∀ s, s < 15 → fitB (x :: t) s = false := by
    intro s hs
    obtain ⟨h1, _, _, _, h5⟩ := sort_at s (by omega)
    have h6 := (h5 hs).1
    unfold fitB
    rw [small_no (k := 0) (by simp; omega) (by
      rw [show ((x :: t).take (cn s)).getD 0 0 = x by
        obtain ⟨c, hc⟩ : ∃ c, cn s = c + 1 := ⟨cn s - 1, by omega⟩
        rw [hc]; simp]
      have := pow_mono h6
      omega)]
    simp
  unfold least
  simp [leastF, no 0, no 1, no 2, no 3, no 4, no 5, no 6, no 7, no 8, no 9, no 10, no 11, no 12, no 13, no 14]

/-- numbers behind one another, w bits each, behind a -/
def wacc (a w : Nat) (zs : List Int) : Nat := zs.foldl (fun a z => a * 2 ^ w + z.toNat) a
theorem wacc_snoc (a w : Nat) (zs : List Int) (z : Int) : wacc a w (zs ++ [z]) = wacc a w zs * 2 ^ w + z.toNat := by simp [wacc]
theorem wacc_cons (a w : Nat) (zs : List Int) (z : Int) : wacc a w (z :: zs) = wacc (a * 2 ^ w + z.toNat) w zs := rfl
theorem wacc_append (a w : Nat) (ys zs : List Int) : wacc a w (ys ++ zs) = wacc (wacc a w ys) w zs := by simp [wacc]
theorem toNat_up {w : Nat} {z : Int} (h : 0 ≤ z ∧ z < 2 ^ w) : z.toNat < 2 ^ w := by
  have e : ((2 ^ w : Nat) : Int) = 2 ^ w := by simp
  omega
theorem wacc_split (w : Nat) : ∀ (zs : List Int) (a : Nat), Up w zs → ∃ r, wacc a w zs = a * 2 ^ (zs.length * w) + r ∧ r < 2 ^ (zs.length * w)
  | [], a, _ => ⟨0, by simp [wacc], by simp⟩
  | z :: zs, a, h => by
    obtain ⟨r, h1, h2⟩ := wacc_split w zs (a * 2 ^ w + z.toNat) (fun x hx => h x (List.mem_cons_of_mem _ hx))
    have hz := toNat_up (h z List.mem_cons_self)
    refine ⟨z.toNat * 2 ^ (zs.length * w) + r, ?_, ?_⟩
    · rw [wacc_cons, h1, List.length_cons, Nat.add_mul, Nat.mul_assoc, ← Nat.pow_add, Nat.add_assoc]
      congr 3
      rw [Nat.add_mul]; omega
    · rw [List.length_cons, Nat.add_mul, Nat.one_mul, Nat.pow_add, Nat.mul_comm (2 ^ (zs.length * w)) (2 ^ w)]
      have h3 : (z.toNat + 1) * 2 ^ (zs.length * w) ≤ 2 ^ w * 2 ^ (zs.length * w) := Nat.mul_le_mul_right _ hz
      rw [Nat.add_mul, Nat.one_mul] at h3
      omega
/-- the word of a sort -/
def wordN (s w : Nat) (zs : List Int) : Nat := wacc s w zs * 2 ^ (60 - zs.length * w)
theorem wordN_lt {s w : Nat} {zs : List Int} (hs : s < 16) (h : Up w zs) (hw : zs.length * w ≤ 60) : wordN s w zs < 18446744073709551616 := by
  obtain ⟨r, h1, h2⟩ := wacc_split w zs s h
  have e : 2 ^ (zs.length * w) * 2 ^ (60 - zs.length * w) = 2 ^ 60 := by rw [← Nat.pow_add]; congr 1; omega
  have h3 : wacc s w zs < 16 * 2 ^ (zs.length * w) := by
    have : (s + 1) * 2 ^ (zs.length * w) ≤ 16 * 2 ^ (zs.length * w) := Nat.mul_le_mul_right _ (by omega)
    rw [Nat.add_mul, Nat.one_mul] at this
    omega
  have h4 := Nat.mul_lt_mul_of_pos_right h3 (Nat.two_pow_pos (60 - zs.length * w))
  rw [Nat.mul_assoc, e] at h4
  have e60 : (2 : Nat) ^ 60 = 1152921504606846976 := by decide
  unfold wordN
  omega
theorem wordN_sort {s w : Nat} {zs : List Int} (h : Up w zs) (hw : zs.length * w ≤ 60) : wordN s w zs / 2 ^ 60 = s := by
  obtain ⟨r, h1, h2⟩ := wacc_split w zs s h
  have e : (2 : Nat) ^ 60 = 2 ^ (60 - zs.length * w) * 2 ^ (zs.length * w) := by rw [← Nat.pow_add]; congr 1; omega
  unfold wordN
  rw [e, ← Nat.div_div_eq_div_mul, Nat.mul_div_cancel _ (Nat.two_pow_pos _), h1, Nat.add_comm, Nat.add_mul_div_right _ _ (Nat.two_pow_pos _), Nat.div_eq_of_lt h2, Nat.zero_add]

/-- number i of a word, w bits each -/
def numAt (v w i : Nat) : Nat := v / 2 ^ (60 - (i + 1) * w) % 2 ^ w
theorem numAt_word {s w : Nat} {zs : List Int} (h : Up w zs) (hw : zs.length * w ≤ 60) (i : Nat) (hi : i < zs.length) : (numAt (wordN s w zs) w i : Int) = zs.getD i 0 := by
  obtain ⟨a, z, b, rfl, rfl⟩ : ∃ a z b, zs = a ++ z :: b ∧ a.length = i := ⟨zs.take i, zs[i], zs.drop (i + 1), by rw [List.getElem_cons_drop, List.take_append_drop], by simp; omega⟩
  have hz := h z (by simp)
  have hn := toNat_up hz
  obtain ⟨r, h1, h2⟩ := wacc_split w b (wacc s w (a ++ [z])) (fun x hx => h x (by simp [hx]))
  have e0 : wacc s w (a ++ z :: b) = wacc s w (a ++ [z]) * 2 ^ (b.length * w) + r := by
    rw [← h1, ← wacc_append, List.append_assoc, List.singleton_append]
  have hl : (a ++ z :: b).length = a.length + 1 + b.length := by simp; omega
  rw [hl, Nat.add_mul] at hw
  have e1 : 60 - (a.length + 1) * w = (60 - (a ++ z :: b).length * w) + b.length * w := by rw [hl, Nat.add_mul (a.length + 1)]; omega
  unfold numAt wordN
  rw [e1, Nat.pow_add, ← Nat.div_div_eq_div_mul, Nat.mul_div_cancel _ (Nat.two_pow_pos _), e0, Nat.add_comm, Nat.add_mul_div_right _ _ (Nat.two_pow_pos _), Nat.div_eq_of_lt h2, Nat.zero_add, wacc_snoc,
    Nat.add_comm, Nat.add_mul_mod_self_right, Nat.mod_eq_of_lt hn]
  simp
  omega
/-- the numbers of a word -/
def nms (v : Nat) : List Int := (List.range (cn (v / 2 ^ 60))).map fun i => (numAt v (wi (v / 2 ^ 60)) i : Int)
theorem nms_length (v : Nat) : (nms v).length = cn (v / 2 ^ 60) := by simp [nms]
theorem nms_up (v : Nat) (hv : v < 18446744073709551616) : Up 60 (nms v) := by
  intro x hx
  simp only [nms, List.mem_map] at hx
  obtain ⟨i, _, rfl⟩ := hx
  have hs : v / 2 ^ 60 < 16 := by
    have e60 : (2 : Nat) ^ 60 = 1152921504606846976 := by decide
    rw [e60]; omega
  have h3 := (sort_at _ hs).2.2.1
  have h4 : numAt v (wi (v / 2 ^ 60)) i < 2 ^ wi (v / 2 ^ 60) := Nat.mod_lt _ (Nat.two_pow_pos _)
  have h5 : 2 ^ wi (v / 2 ^ 60) ≤ 2 ^ 60 := Nat.pow_le_pow_right (by omega) h3
  refine ⟨by omega, ?_⟩
  have : numAt v (wi (v / 2 ^ 60)) i < 2 ^ 60 := by omega
  exact_mod_cast this
theorem nms_word {s : Nat} {zs : List Int} (hs : s < 16) (hl : zs.length = cn s) (h : Up (wi s) zs) : nms (wordN s (wi s) zs) = zs := by
  have hw : zs.length * wi s ≤ 60 := by rw [hl]; exact (sort_at s hs).2.2.2.1
  have e := wordN_sort (s := s) h hw
  unfold nms
  rw [e, ← hl]
  apply List.ext_getElem
  · simp
  · intro i h1 h2
    rw [List.getElem_map, List.getElem_range, numAt_word h hw i h2, List.getD_eq_getElem?_getD, List.getElem?_eq_getElem h2]
    rfl
end Go.Proofs.YtifbdjhbeanfaaaDoor

/- Package simple as plain mathematics: lists of numbers in words, there and back. -/
namespace Go.Proofs.YtifbdjhbeanfaaaDoor
open Go.RowKit

theorem fixB_next (v : Int) (i : Nat) : fixB v (i + 1) = fixB (v / 256) i := by
  unfold fixB
  rw [show 8 * (i + 1) = 8 + 8 * i by omega, Int.pow_add, show (2 : Int) ^ 8 = 256 from rfl, Int.ediv_ediv_of_nonneg (by omega)]
theorem fixL_next (v : Int) (n : Nat) : fixL v (n + 1) = fixL (v / 256) n ++ [fixB v 0] := by
  unfold fixL
  rw [List.range_succ, List.map_append, List.map_singleton]
  congr 1
  · apply List.map_congr_left
    intro j hj
    rw [List.mem_range] at hj
    rw [← fixB_next]
    congr 1
    omega
  · simp
theorem num_fix (n : Nat) : ∀ v : Int, 0 ≤ v → (num (fixL v n) : Int) = v % ((256 ^ n : Nat) : Int) := by
  induction n with
  | zero => intro v _; simp [fixL, num]
  | succ n ih =>
    intro v hv
    have h0 := fixB_range v 0
    rw [fixL_next, num_snoc, Int.natCast_add, Int.natCast_mul, ih (v / 256) (by omega), Int.toNat_of_nonneg h0.1]
    obtain ⟨m, rfl⟩ := Int.eq_ofNat_of_zero_le hv
    have e1 : fixB (m : Int) 0 = ((m % 256 : Nat) : Int) := by simp [fixB]
    have e2 : ((m : Int) / 256) = ((m / 256 : Nat) : Int) := by omega
    rw [e1, e2, Nat.pow_succ, Nat.mul_comm (256 ^ n) 256, ← Int.natCast_emod, ← Int.natCast_emod, Nat.mod_mul]
    omega
theorem num_fix8 (v : Nat) (h : v < 18446744073709551616) : num (fixL v 8) = v := by
  have := num_fix 8 v (by omega)
  have e : ((256 ^ 8 : Nat) : Int) = 18446744073709551616 := by decide
  rw [e] at this
  omega

/-- the word that a list begins with -/
def wd0 (xs : List Int) : Nat := wordN (least xs) (wi (least xs)) (xs.take (cn (least xs)))
def encF : Nat → List Int → List Int
  | 0, _ => []
  | f + 1, xs => if xs = [] then [] else fixL (wd0 xs) 8 ++ encF f (xs.drop (cn (least xs)))
/-- what a list is written as -/
def enc (xs : List Int) : List Int := encF xs.length xs
theorem encF_nil (f : Nat) : encF f [] = [] := by cases f <;> simp [encF]
theorem encF_fuel : ∀ (f g : Nat) (xs : List Int), Up 60 xs → xs.length ≤ f → xs.length ≤ g → encF f xs = encF g xs
  | 0, g, xs, _, hf, _ => by
    have : xs = [] := List.eq_nil_of_length_eq_zero (by omega)
    rw [this, encF_nil, encF_nil]
  | f + 1, 0, xs, _, _, hg => by
    have : xs = [] := List.eq_nil_of_length_eq_zero (by omega)
    rw [this, encF_nil, encF_nil]
  | f + 1, g + 1, xs, hu, hf, hg => by
    by_cases h : xs = []
    · rw [h, encF_nil, encF_nil]
    · have h1 := (sort_at _ (least_fits h hu).1).1
      simp only [encF, h, if_false]
      rw [encF_fuel f g (xs.drop (cn (least xs))) (hu.drop _) (by rw [List.length_drop]; omega) (by rw [List.length_drop]; omega)]
theorem enc_nil : enc [] = [] := rfl
theorem enc_step {xs : List Int} (h : xs ≠ []) (hu : Up 60 xs) : enc xs = fixL (wd0 xs) 8 ++ enc (xs.drop (cn (least xs))) := by
  have hl : 0 < xs.length := List.length_pos_iff.2 h
  have h1 := (sort_at _ (least_fits h hu).1).1
  obtain ⟨f, hf⟩ : ∃ f, xs.length = f + 1 := ⟨xs.length - 1, by omega⟩
  unfold enc
  rw [hf]
  simp only [encF, h, if_false]
  rw [encF_fuel f (xs.drop (cn (least xs))).length _ (hu.drop _) (by rw [List.length_drop]; omega) (Nat.le_refl _)]
theorem wd0_facts {xs : List Int} (h : xs ≠ []) (hu : Up 60 xs) : wd0 xs < 18446744073709551616 ∧ nms (wd0 xs) = xs.take (cn (least xs)) := by
  obtain ⟨h1, h2, h3⟩ := least_fits h hu
  have hl : (xs.take (cn (least xs))).length = cn (least xs) := by rw [List.length_take]; omega
  exact ⟨wordN_lt h1 h3 (by rw [hl]; exact (sort_at _ h1).2.2.2.1), nms_word h1 hl h3⟩
theorem enc_len : ∀ (n : Nat) (xs : List Int), xs.length = n → Up 60 xs → (enc xs).length % 8 = 0 ∧ (enc xs).length ≤ 8 * xs.length ∧ xs.length ≤ 30 * (enc xs).length := by
  intro n
  induction n using Nat.strongRecOn with
  | _ n ih =>
    intro xs hn hu
    by_cases h : xs = []
    · subst h; simp [enc_nil]
    · obtain ⟨h1, h2, h3⟩ := least_fits h hu
      have h4 := sort_at _ h1
      obtain ⟨a, b, c⟩ := ih (xs.drop (cn (least xs))).length (by rw [List.length_drop]; omega) _ rfl (hu.drop _)
      rw [enc_step h hu, List.length_append, fixL_len]
      rw [List.length_drop] at b c
      omega
theorem enc_range : ∀ (n : Nat) (xs : List Int), xs.length = n → Up 60 xs → ∀ y ∈ enc xs, 0 ≤ y ∧ y ≤ 255 := by
  intro n
  induction n using Nat.strongRecOn with
  | _ n ih =>
    intro xs hn hu y hy
    by_cases h : xs = []
    · subst h; simp [enc_nil] at hy
    · obtain ⟨h1, h2, h3⟩ := least_fits h hu
      have h4 := sort_at _ h1
      rw [enc_step h hu, List.mem_append] at hy
      rcases hy with hy | hy
      · exact fixL_range _ _ y hy
      · exact ih (xs.drop (cn (least xs))).length (by rw [List.length_drop]; omega) _ rfl (hu.drop _) y hy

/-- words are read as long as fewer than n numbers are had: the numbers, what is left, the error -/
def rdF : Nat → Nat → List Int → List Int → List Int × List Int × Int
  | 0, _, acc, ys => (acc, ys, 0)
  | f + 1, n, acc, ys => if acc.length < n then (if ys.length < 8 then ([], ys, 2) else rdF f n (acc ++ nms (num (ys.take 8))) (ys.drop 8)) else (acc, ys, 0)
def rdA (n : Nat) (ys : List Int) : List Int × List Int × Int := rdF (ys.length + 1) n [] ys
theorem rdF_done {n : Nat} {acc ys : List Int} (h : n ≤ acc.length) (f : Nat) : rdF f n acc ys = (acc, ys, 0) := by
  cases f with
  | zero => rfl
  | succ f => simp only [rdF]; rw [if_neg (by omega)]
theorem rdF_short {n f : Nat} {acc ys : List Int} (h : acc.length < n) (hy : ys.length < 8) (hf : 0 < f) : rdF f n acc ys = ([], ys, 2) := by
  obtain ⟨g, rfl⟩ : ∃ g, f = g + 1 := ⟨f - 1, by omega⟩
  simp only [rdF]
  rw [if_pos h, if_pos hy]
theorem rdF_step {n f : Nat} {acc ys : List Int} (h : acc.length < n) (hy : 8 ≤ ys.length) (hf : ys.length < f) : rdF f n acc ys = rdF (f - 1) n (acc ++ nms (num (ys.take 8))) (ys.drop 8) ∧ (ys.drop 8).length < f - 1 := by
  obtain ⟨g, rfl⟩ : ∃ g, f = g + 1 := ⟨f - 1, by omega⟩
  simp only [rdF]
  rw [if_pos h, if_neg (by omega)]
  exact ⟨rfl, by rw [List.length_drop]; omega⟩
theorem num8_lt {ys : List Int} (hr : ∀ y ∈ ys, 0 ≤ y ∧ y ≤ 255) : num (ys.take 8) < 18446744073709551616 := by
  have h := num_lt (ys.take 8) (fun y hy => hr y (List.mem_of_mem_take hy))
  have h2 : 256 ^ (ys.take 8).length ≤ 256 ^ 8 := Nat.pow_le_pow_right (by omega) (by rw [List.length_take]; omega)
  have e : (256 : Nat) ^ 8 = 18446744073709551616 := by decide
  omega
theorem sort_lt {v : Nat} (h : v < 18446744073709551616) : v / 2 ^ 60 < 16 := by
  have e60 : (2 : Nat) ^ 60 = 1152921504606846976 := by decide
  rw [e60]; omega
/-- what is read: small numbers, n and at most 239 more; or too short -/
theorem rdF_facts : ∀ (f n : Nat) (acc ys : List Int), ys.length < f → (∀ y ∈ ys, 0 ≤ y ∧ y ≤ 255) → Up 60 acc → acc.length < n + 240 →
    (rdF f n acc ys).2.2 = 2 ∧ (rdF f n acc ys).1 = [] ∨ (rdF f n acc ys).2.2 = 0 ∧ Up 60 (rdF f n acc ys).1 ∧ n ≤ (rdF f n acc ys).1.length ∧ (rdF f n acc ys).1.length < n + 240
  | 0, n, acc, ys, h, _, _, _ => by omega
  | f + 1, n, acc, ys, h, hr, hu, hl => by
    by_cases ha : acc.length < n
    · by_cases hy : ys.length < 8
      · rw [rdF_short ha hy (by omega)]
        exact .inl ⟨rfl, rfl⟩
      · rw [(rdF_step ha (by omega) h).1]
        have hv := num8_lt hr
        have h4 := sort_at _ (sort_lt hv)
        exact rdF_facts f n _ _ (by rw [List.length_drop]; omega) (fun y hy => hr y (List.mem_of_mem_drop hy)) (hu.append (nms_up _ hv)) (by rw [List.length_append, nms_length]; omega)
    · rw [rdF_done (by omega)]
      exact .inr ⟨rfl, hu, by simpa using ha, hl⟩
/-- what is written is read -/
theorem rdF_enc : ∀ (n : Nat) (xs acc r : List Int) (f : Nat), xs.length = n → Up 60 xs → (enc xs ++ r).length < f → rdF f (acc.length + xs.length) acc (enc xs ++ r) = (acc ++ xs, r, 0) := by
  intro n
  induction n using Nat.strongRecOn with
  | _ n ih =>
    intro xs acc r f hn hu hf
    by_cases h : xs = []
    · subst h
      simp only [enc_nil, List.nil_append, List.append_nil]
      rw [rdF_done (by simp)]
    · obtain ⟨h1, h2, h3⟩ := least_fits h hu
      have h4 := sort_at _ h1
      obtain ⟨w1, w2⟩ := wd0_facts h hu
      have hx : 0 < xs.length := List.length_pos_iff.2 h
      have e : enc xs ++ r = fixL (wd0 xs) 8 ++ (enc (xs.drop (cn (least xs))) ++ r) := by rw [enc_step h hu, List.append_assoc]
      have l8 := fixL_len (wd0 xs) 8
      rw [e] at hf ⊢
      have s := rdF_step (f := f) (n := acc.length + xs.length) (acc := acc) (ys := fixL (wd0 xs) 8 ++ (enc (xs.drop (cn (least xs))) ++ r)) (by omega) (by rw [List.length_append]; omega) hf
      rw [List.take_left' l8, List.drop_left' l8, num_fix8 _ w1, w2] at s
      rw [s.1]
      have hl : (acc ++ xs.take (cn (least xs))).length + (xs.drop (cn (least xs))).length = acc.length + xs.length := by
        rw [List.length_append, List.length_take, List.length_drop]; omega
      rw [← hl, ih (xs.drop (cn (least xs))).length (by rw [List.length_drop]; omega) _ (acc ++ xs.take (cn (least xs))) r (f - 1) rfl (hu.drop _) s.2, List.append_assoc, List.take_append_drop]
/-- cut off it is too short -/
theorem rdF_cut : ∀ (n : Nat) (xs acc : List Int) (f k : Nat), xs.length = n → Up 60 xs → k < (enc xs).length → ((enc xs).take k).length < f → (rdF f (acc.length + xs.length) acc ((enc xs).take k)).2.2 = 2 := by
  intro n
  induction n using Nat.strongRecOn with
  | _ n ih =>
    intro xs acc f k hn hu hk hf
    by_cases h : xs = []
    · subst h; simp [enc_nil] at hk
    · obtain ⟨h1, h2, h3⟩ := least_fits h hu
      have h4 := sort_at _ h1
      obtain ⟨w1, w2⟩ := wd0_facts h hu
      have hx : 0 < xs.length := List.length_pos_iff.2 h
      have l8 := fixL_len (wd0 xs) 8
      by_cases h8 : k < 8
      · rw [rdF_short (by omega) (by rw [List.length_take]; omega) (by omega)]
      · have e : (enc xs).take k = fixL (wd0 xs) 8 ++ (enc (xs.drop (cn (least xs)))).take (k - 8) := by
          rw [enc_step h hu, List.take_append, List.take_of_length_le (by omega), l8]
        have el : (enc xs).length = 8 + (enc (xs.drop (cn (least xs)))).length := by rw [enc_step h hu, List.length_append, l8]
        rw [e] at hf ⊢
        have s := rdF_step (f := f) (n := acc.length + xs.length) (acc := acc) (ys := fixL (wd0 xs) 8 ++ (enc (xs.drop (cn (least xs)))).take (k - 8)) (by omega) (by rw [List.length_append]; omega) hf
        rw [List.take_left' l8, List.drop_left' l8, num_fix8 _ w1, w2] at s
        rw [s.1]
        have hl : (acc ++ xs.take (cn (least xs))).length + (xs.drop (cn (least xs))).length = acc.length + xs.length := by
          rw [List.length_append, List.length_take, List.length_drop]; omega
        rw [← hl]
        exact ih (xs.drop (cn (least xs))).length (by rw [List.length_drop]; omega) _ (acc ++ xs.take (cn (least xs))) (f - 1) (k - 8) rfl (hu.drop _) (by omega) s.2

/-- what bytes are decoded to -/
def dec (ys : List Int) (n : Nat) : List Int × Int :=
  if (rdA n ys).2.2 ≠ 0 then ([], 2) else if n < (rdA n ys).1.length then ([], 3) else if enc (rdA n ys).1 = ys then ((rdA n ys).1, 0) else ([], 3)
theorem rdA_facts {n : Nat} {ys : List Int} (hr : ∀ y ∈ ys, 0 ≤ y ∧ y ≤ 255) :
    (rdA n ys).2.2 = 2 ∧ (rdA n ys).1 = [] ∨ (rdA n ys).2.2 = 0 ∧ Up 60 (rdA n ys).1 ∧ n ≤ (rdA n ys).1.length ∧ (rdA n ys).1.length < n + 240 :=
  rdF_facts _ n [] ys (by omega) hr (Up.nil _) (by simp)
theorem rdA_enc {xs : List Int} (hu : Up 60 xs) (r : List Int) : rdA xs.length (enc xs ++ r) = (xs, r, 0) := by
  have := rdF_enc xs.length xs [] r ((enc xs ++ r).length + 1) rfl hu (by omega)
  simpa [rdA] using this
theorem dec_enc {xs : List Int} (hu : Up 60 xs) : dec (enc xs) xs.length = (xs, 0) := by
  have := rdA_enc hu []
  rw [List.append_nil] at this
  simp [dec, this]
theorem dec_more {xs r : List Int} (hu : Up 60 xs) (h : r ≠ []) : dec (enc xs ++ r) xs.length = ([], 3) := by
  have := rdA_enc hu r
  simp [dec, this, h]
theorem dec_cut {xs : List Int} (hu : Up 60 xs) {k : Nat} (hk : k < (enc xs).length) : dec ((enc xs).take k) xs.length = ([], 2) := by
  have := rdF_cut xs.length xs [] (((enc xs).take k).length + 1) k rfl hu hk (by omega)
  simp only [List.length_nil, Nat.zero_add] at this
  unfold dec rdA
  rw [if_pos (by rw [this]; decide)]
/-- where all are read and written so, nothing is left -/
theorem rdA_rest {n : Nat} {ys : List Int} (hr : ∀ y ∈ ys, 0 ≤ y ∧ y ≤ 255) (h0 : (rdA n ys).2.2 = 0) (hn : (rdA n ys).1.length = n) (he : enc (rdA n ys).1 = ys) : (rdA n ys).2.1 = [] := by
  rcases rdA_facts (n := n) hr with ⟨h, _⟩ | ⟨_, hu, _⟩
  · omega
  · have := rdA_enc hu []
    rw [List.append_nil, hn, he] at this
    rw [this]
/-- what is decoded is written so -/
theorem dec_only {n : Nat} {ys : List Int} (hr : ∀ y ∈ ys, 0 ≤ y ∧ y ≤ 255) :
    (∃ c, dec ys n = ([], c) ∧ (c = 2 ∨ c = 3)) ∨ (∃ l, dec ys n = (l, 0) ∧ Up 60 l ∧ l.length = n ∧ enc l = ys) := by
  unfold dec
  by_cases h0 : (rdA n ys).2.2 = 0
  · rw [if_neg (by simpa using h0)]
    rcases rdA_facts (n := n) hr with ⟨h, _⟩ | ⟨_, hu, h1, _⟩
    · omega
    · by_cases hn : n < (rdA n ys).1.length
      · rw [if_pos hn]; exact .inl ⟨3, rfl, .inr rfl⟩
      · rw [if_neg hn]
        by_cases he : enc (rdA n ys).1 = ys
        · rw [if_pos he]; exact .inr ⟨_, rfl, hu, by omega, he⟩
        · rw [if_neg he]; exact .inl ⟨3, rfl, .inr rfl⟩
  · rw [if_pos h0]; exact .inl ⟨2, rfl, .inl rfl⟩
/-- no word has more than 240 numbers -/
theorem enc_words : ∀ (n : Nat) (xs : List Int), xs.length = n → Up 60 xs → 8 * ((xs.length + 239) / 240) ≤ (enc xs).length := by
  intro n
  induction n using Nat.strongRecOn with
  | _ n ih =>
    intro xs hn hu
    by_cases h : xs = []
    · subst h; simp [enc_nil]
    · obtain ⟨h1, h2, h3⟩ := least_fits h hu
      have h4 := sort_at _ h1
      have a := ih (xs.drop (cn (least xs))).length (by rw [List.length_drop]; omega) _ rfl (hu.drop _)
      rw [enc_step h hu, List.length_append, fixL_len]
      rw [List.length_drop] at a
      omega
/-- a great number ahead takes a word of its own -/
theorem enc_great {x : Int} {t : List Int} (hu : Up 60 (x :: t)) (h : 2 ^ 30 ≤ x) : enc (x :: t) = fixL ((15 * 2 ^ 60 + x.toNat : Nat) : Int) 8 ++ enc t := by
  have e := least_great (t := t) h
  have e1 : cn 15 = 1 := rfl
  have e2 : wi 15 = 60 := rfl
  have ew : wd0 (x :: t) = 15 * 2 ^ 60 + x.toNat := by
    unfold wd0
    rw [e, e1, e2]
    simp [wordN, wacc]
  rw [enc_step (by simp) hu, e, e1, ew]
  rfl
theorem enc_greats : ∀ (t : List Int), Up 60 t → (∀ x ∈ t, 2 ^ 30 ≤ x) → (enc t).length = 8 * t.length
  | [], _, _ => by simp [enc_nil]
  | x :: t, hu, h => by
    rw [enc_great hu (h x List.mem_cons_self), List.length_append, fixL_len, enc_greats t (fun y hy => hu y (List.mem_cons_of_mem _ hy)) (fun y hy => h y (List.mem_cons_of_mem _ hy)), List.length_cons]
    omega
end Go.Proofs.YtifbdjhbeanfaaaDoor
