/- Several texts in one: Rm, Cu3, Kc, Dm, Info. -/
import Derived.Test.YthapipgaohlgdabGreatDoorG3
import Derived.WalkKit
import Derived.Test.YthapipgaohlgdabGreatDoorG1
import Derived.Test.YthapipgaohlgdabGreatDoorProg

/- Numbers as runs, and runs as numbers: plain facts, no program is named here. -/
namespace Go.Proofs.YthapipgaohlgdabGreatDoor

/-- a run of v that has k + 1 so far, and what stands behind it -/
def runR : Int → Nat → List Int → List Int
  | v, k, [] => gs v.toNat ++ gs k
  | v, k, x :: t => if x = v then runR v (k + 1) t else gs v.toNat ++ gs k ++ runR x 0 t
/-- numbers as runs -/
def runE : List Int → List Int
  | [] => []
  | x :: t => runR x 0 t
/-- t does not open with v -/
def Apart1 (v : Int) (t : List Int) : Prop := ∀ x r, t = x :: r → x ≠ v
theorem apart_nil (v : Int) : Apart1 v [] := fun x r h => by cases h

theorem runR_rep (v : Int) (i : Nat) : ∀ (k : Nat) (r : List Int), runR v k (List.replicate i v ++ r) = runR v (k + i) r := by
  induction i with
  | zero => intro k r; rfl
  | succ i ih =>
    intro k r
    rw [List.replicate_succ, List.cons_append, runR, if_pos rfl, ih, Nat.add_assoc, Nat.add_comm 1 i]
theorem runR_end {v : Int} {t : List Int} (h : Apart1 v t) (k : Nat) : runR v k t = gs v.toNat ++ gs k ++ runE t := by
  cases t with
  | nil => simp [runR, runE]
  | cons x r => rw [runR, if_neg (h x r rfl), runE]
theorem runE_first {v : Int} {t : List Int} (h : Apart1 v t) (m : Nat) : runE (List.replicate (m + 1) v ++ t) = gs v.toNat ++ gs m ++ runE t := by
  rw [List.replicate_succ, List.cons_append, runE, runR_rep, Nat.zero_add, runR_end h]
theorem run_split : ∀ (l : List Int), l ≠ [] → ∃ v m t, l = List.replicate (m + 1) v ++ t ∧ Apart1 v t
  | [], h => absurd rfl h
  | [x], _ => ⟨x, 0, [], rfl, apart_nil x⟩
  | x :: y :: t, _ => by
    obtain ⟨v, m, t', e, ha⟩ := run_split (y :: t) (by simp)
    by_cases h : x = v
    · exact ⟨v, m + 1, t', by rw [h, e, List.replicate_succ (n := m + 1)]; rfl, ha⟩
    · refine ⟨x, 0, y :: t, rfl, fun a r e2 => ?_⟩
      have : y = v := by
        rw [List.replicate_succ] at e
        simp at e
        exact e.1
      simp at e2
      rw [← e2.1, this]
      exact fun h2 => h h2.symm
/-- run by run -/
theorem run_ind {P : List Int → Prop} (h0 : P []) (h1 : ∀ v m t, Apart1 v t → P t → P (List.replicate (m + 1) v ++ t)) (l : List Int) : P l := by
  induction hn : l.length using Nat.strongRecOn generalizing l with
  | _ n ih =>
    by_cases hl : l = []
    · subst hl; exact h0
    · obtain ⟨v, m, t, rfl, ha⟩ := run_split l hl
      refine h1 v m t ha (ih t.length ?_ t rfl)
      rw [← hn, List.length_append, List.length_replicate]
      omega
theorem U64.tail {v : Int} {m : Nat} {t : List Int} (h : U64 (List.replicate (m + 1) v ++ t)) : U64 t := fun x hx => h x (by simp [hx])
theorem U64.head {v : Int} {m : Nat} {t : List Int} (h : U64 (List.replicate (m + 1) v ++ t)) : 0 ≤ v ∧ v ≤ 18446744073709551615 := h v (by simp)
theorem runE_range (l : List Int) : ∀ y ∈ runE l, 0 ≤ y ∧ y ≤ 255 := by
  induction l using run_ind with
  | h0 => intro y hy; cases hy
  | h1 v m t ha ih =>
    rw [runE_first ha]
    intro y hy
    rcases List.mem_append.1 hy with hy | hy
    · rcases List.mem_append.1 hy with hy | hy
      · exact gs_range _ y hy
      · exact gs_range _ y hy
    · exact ih y hy
theorem runE_len (l : List Int) : U64 l → l.length < 18446744073709551616 → (runE l).length ≤ 20 * l.length := by
  induction l using run_ind with
  | h0 => intro _ _; simp [runE]
  | h1 v m t ha ih =>
    intro hu hl
    rw [List.length_append, List.length_replicate] at hl
    have hv := hu.head
    have h1 := gs_le10 (v := v.toNat) (by omega)
    have h2 := gs_le10 (v := m) (by omega)
    have h3 := ih hu.tail (by omega)
    rw [runE_first ha, List.length_append, List.length_append, List.length_append, List.length_replicate]
    omega
theorem Apart1.app {v : Int} {t b : List Int} (h : Apart1 v t) (ht : t ≠ []) : Apart1 v (t ++ b) := by
  intro x r e
  cases t with
  | nil => exact absurd rfl ht
  | cons y s =>
    simp at e
    exact h x s (by rw [e.1])
/-- TWO LISTS, one behind the other -/
theorem runE_app {b : List Int} (hb : b ≠ []) (a : List Int) : a ≠ [] → a.getD (a.length - 1) 0 ≠ b.getD 0 0 → runE (a ++ b) = runE a ++ runE b := by
  induction a using run_ind with
  | h0 => intro h; exact absurd rfl h
  | h1 v m t ha ih =>
    intro _ hne
    by_cases ht : t = []
    · subst ht
      have hv : Apart1 v b := by
        intro x r e
        subst e
        intro h
        subst h
        apply hne
        simp [List.getD_eq_getElem?_getD]
      rw [List.append_nil, runE_first hv]
      have := runE_first (apart_nil v) m
      rw [List.append_nil] at this
      rw [this]
      simp [runE]
    · rw [List.append_assoc, runE_first (ha.app ht), runE_first ha, ih ht ?_, List.append_assoc, List.append_assoc, List.append_assoc]
      have hl : 0 < t.length := by cases t with
        | nil => exact absurd rfl ht
        | cons _ _ => simp
      have e : (List.replicate (m + 1) v ++ t).getD ((List.replicate (m + 1) v ++ t).length - 1) 0 = t.getD (t.length - 1) 0 := by
        rw [List.getD_eq_getElem?_getD, List.getD_eq_getElem?_getD, List.length_append, List.length_replicate, List.getElem?_append_right (by rw [List.length_replicate]; omega), List.length_replicate]
        congr 2
        omega
      rw [← e]; exact hne
/-- as many of one number -/
theorem runE_rep (v : Int) (m : Nat) : runE (List.replicate (m + 1) v) = gs v.toNat ++ gs m := by
  have := runE_first (apart_nil v) m
  rw [List.append_nil] at this
  rw [this]
  simp [runE]
/-- the first run ends where a number is another one -/
theorem runE_step {l : List Int} {i : Nat} (h0 : 0 < i) (hi : i < l.length) (hs : ∀ j, j < i → l.getD j 0 = l.getD 0 0) (hd : l.getD i 0 ≠ l.getD 0 0) : runE l = gs (l.getD 0 0).toNat ++ gs (i - 1) ++ runE (l.drop i) := by
  have e : l = List.replicate (i - 1 + 1) (l.getD 0 0) ++ l.drop i := by
    have ht : l.take i = List.replicate (i - 1 + 1) (l.getD 0 0) := by
      apply List.ext_getElem
      · rw [List.length_take, List.length_replicate]; omega
      · intro j h1 h2
        rw [List.length_take] at h1
        have := hs j (by omega)
        rw [List.getElem_take, List.getElem_replicate, ← this, List.getD_eq_getElem?_getD, List.getElem?_eq_getElem (by omega)]
        rfl
    rw [← ht, List.take_append_drop]
  have ha : Apart1 (l.getD 0 0) (l.drop i) := by
    intro x r e2
    have := List.drop_eq_getElem_cons hi
    rw [this] at e2
    injection e2 with e3 _
    rw [← e3]
    rw [List.getD_eq_getElem?_getD, List.getElem?_eq_getElem hi] at hd
    exact hd
  have key := runE_first ha (i - 1)
  rw [← e] at key
  exact key
theorem runE_all {l : List Int} (h0 : 0 < l.length) (hs : ∀ j, j < l.length → l.getD j 0 = l.getD 0 0) : runE l = gs (l.getD 0 0).toNat ++ gs (l.length - 1) := by
  have e : l = List.replicate (l.length - 1 + 1) (l.getD 0 0) := by
    apply List.ext_getElem
    · rw [List.length_replicate]; omega
    · intro j h1 h2
      have := hs j h1
      rw [List.getElem_replicate, ← this, List.getD_eq_getElem?_getD, List.getElem?_eq_getElem h1]
      rfl
  have key := runE_rep (l.getD 0 0) (l.length - 1)
  rw [← e] at key
  exact key

/-! what a varint tells -/
theorem sVarint_cases {ys : List Int} (hr : ∀ y ∈ ys, 0 ≤ y ∧ y ≤ 255) : (∃ c, sVarint ys = (0, 0, c) ∧ (c = 2 ∨ c = 3)) ∨ (∃ a k : Nat, sVarint ys = ((a : Int), k, 0) ∧ 1 ≤ k ∧ k ≤ ys.length ∧ a < 18446744073709551616 ∧ ys = gs a ++ ys.drop k) := by
  rcases rd_cases ys hr with ⟨c, h, hc⟩ | ⟨a, k, h, h1, h2, _, h4, h5⟩
  · exact .inl ⟨c, by rw [sVarint, h]; rfl, hc⟩
  · exact .inr ⟨a, k, by rw [sVarint, h]; rfl, h1, h2, h4, by rw [h5, List.take_append_drop]⟩
theorem sVarint_short (v k : Nat) (h : v < 18446744073709551616) (hk : k < (gs v).length) : sVarint ((gs v).take k) = (0, 0, 2) := by
  have := rd_short v 0 k 0 (by omega) (by simpa using h) hk
  rw [sVarint, this]
  rfl

/-! the other way round -/
/-- is v the number that acc ends with? -/
def runOn (acc : List Int) (v : Int) : Bool := decide (0 < acc.length) && (acc.getD (acc.length - 1) 0 == v)
/-- acc is had; what the bytes ys add to it, until there are n -/
def runD : Nat → List Int → List Int → Nat → List Int × Int
  | 0, _, _, _ => ([], 3)
  | f + 1, acc, ys, n =>
    if acc.length < n then
      if (sVarint ys).2.2 ≠ 0 then ([], (sVarint ys).2.2)
      else if (sVarint (ys.drop (sVarint ys).2.1)).2.2 ≠ 0 then ([], (sVarint (ys.drop (sVarint ys).2.1)).2.2)
      else if n - acc.length ≤ (sVarint (ys.drop (sVarint ys).2.1)).1.toNat ∨ runOn acc (sVarint ys).1 = true then ([], 3)
      else runD f (acc ++ List.replicate ((sVarint (ys.drop (sVarint ys).2.1)).1.toNat + 1) (sVarint ys).1) ((ys.drop (sVarint ys).2.1).drop (sVarint (ys.drop (sVarint ys).2.1)).2.1) n
    else if 0 < ys.length then ([], 3) else (acc, 0)
def runDec (ys : List Int) (n : Nat) : List Int × Int := runD (n + 1) [] ys n

theorem runD_done {f : Nat} {acc ys : List Int} {n : Nat} (h : ¬ acc.length < n) (hf : 0 < f) : runD f acc ys n = if 0 < ys.length then ([], 3) else (acc, 0) := by
  obtain ⟨g, rfl⟩ : ∃ g, f = g + 1 := ⟨f - 1, by omega⟩
  rw [runD, if_neg h]
theorem runD_err1 {f : Nat} {acc ys : List Int} {n : Nat} {a : Int} {k : Nat} {c : Int} (h : acc.length < n) (hf : 0 < f) (hs : sVarint ys = (a, k, c)) (hc : c ≠ 0) : runD f acc ys n = ([], c) := by
  obtain ⟨g, rfl⟩ : ∃ g, f = g + 1 := ⟨f - 1, by omega⟩
  rw [runD, if_pos h, hs, if_pos hc]
theorem runD_err2 {f : Nat} {acc ys : List Int} {n : Nat} {a b : Int} {k j : Nat} {c : Int} (h : acc.length < n) (hf : 0 < f) (hs : sVarint ys = (a, k, 0)) (hs2 : sVarint (ys.drop k) = (b, j, c)) (hc : c ≠ 0) : runD f acc ys n = ([], c) := by
  obtain ⟨g, rfl⟩ : ∃ g, f = g + 1 := ⟨f - 1, by omega⟩
  rw [runD, if_pos h, hs]
  simp only
  rw [hs2, if_neg (by simp), if_pos hc]
theorem runD_err3 {f : Nat} {acc ys : List Int} {n : Nat} {a : Int} {m k j : Nat} (h : acc.length < n) (hf : 0 < f) (hs : sVarint ys = (a, k, 0)) (hs2 : sVarint (ys.drop k) = ((m : Int), j, 0)) (hm : n - acc.length ≤ m ∨ runOn acc a = true) : runD f acc ys n = ([], 3) := by
  obtain ⟨g, rfl⟩ : ∃ g, f = g + 1 := ⟨f - 1, by omega⟩
  rw [runD, if_pos h, hs]
  simp only
  rw [hs2, if_neg (by simp)]
  simp only
  rw [if_neg (by simp), if_pos (by simpa using hm)]
theorem runD_next {f : Nat} {acc ys : List Int} {n : Nat} {a : Int} {m k j : Nat} (h : acc.length < n) (hf : 0 < f) (hs : sVarint ys = (a, k, 0)) (hs2 : sVarint (ys.drop k) = ((m : Int), j, 0)) (hm : m < n - acc.length) (ho : runOn acc a = false) :
    runD f acc ys n = runD (f - 1) (acc ++ List.replicate (m + 1) a) ((ys.drop k).drop j) n := by
  obtain ⟨g, rfl⟩ : ∃ g, f = g + 1 := ⟨f - 1, by omega⟩
  rw [runD, if_pos h, hs]
  simp only
  rw [hs2, if_neg (by simp)]
  simp only
  rw [if_neg (by simp), if_neg (by rw [ho]; simp; omega)]
  simp
/-- t may stand behind acc: it opens with another number than acc ends with -/
def Joins (acc t : List Int) : Prop := ∀ x r, t = x :: r → runOn acc x = false
theorem runOn_rep (acc : List Int) (v x : Int) (m : Nat) : runOn (acc ++ List.replicate (m + 1) v) x = (v == x) := by
  unfold runOn
  rw [List.length_append, List.length_replicate, decide_eq_true (by omega), Bool.true_and, List.getD_eq_getElem?_getD, List.getElem?_append_right (by omega)]
  rw [List.getElem?_replicate, if_pos (by omega)]
  rfl
theorem joins_rep {acc : List Int} {v : Int} {m : Nat} {t : List Int} : Joins (acc ++ List.replicate (m + 1) v) t ↔ Apart1 v t := by
  constructor
  · intro h x r e
    have := h x r e
    rw [runOn_rep] at this
    simp at this
    exact fun e2 => this e2.symm
  · intro h x r e
    rw [runOn_rep]
    have := h x r e
    simp
    exact fun e2 => this e2.symm
theorem joins_nil (t : List Int) : Joins [] t := fun _ _ _ => rfl

/-- WHAT IS DECODED WAS ENCODED. -/
theorem runD_only (f : Nat) : ∀ (acc ys : List Int) (n : Nat), (∀ y ∈ ys, 0 ≤ y ∧ y ≤ 255) → n - acc.length < f → acc.length ≤ n →
    (∃ c, runD f acc ys n = ([], c) ∧ (c = 2 ∨ c = 3)) ∨ (∃ t, runD f acc ys n = (acc ++ t, 0) ∧ acc.length + t.length = n ∧ ys = runE t ∧ U64 t ∧ Joins acc t) := by
  induction f with
  | zero => intro acc ys n _ h; omega
  | succ f ih =>
    intro acc ys n hr hf hn
    by_cases h : acc.length < n
    · rcases sVarint_cases hr with ⟨c, hs, hc⟩ | ⟨a, k, hs, k1, k2, ha, e1⟩
      · exact .inl ⟨c, runD_err1 h (by omega) hs (by omega), hc⟩
      · have hr2 : ∀ y ∈ ys.drop k, 0 ≤ y ∧ y ≤ 255 := fun y hy => hr y (List.mem_of_mem_drop hy)
        rcases sVarint_cases hr2 with ⟨c, hs2, hc⟩ | ⟨m, j, hs2, j1, j2, hm, e2⟩
        · exact .inl ⟨c, runD_err2 h (by omega) hs hs2 (by omega), hc⟩
        · by_cases hb : n - acc.length ≤ m ∨ runOn acc (a : Int) = true
          · exact .inl ⟨3, runD_err3 h (by omega) hs hs2 hb, .inr rfl⟩
          · have ho : runOn acc (a : Int) = false := by
              cases h3 : runOn acc (a : Int) with
              | false => rfl
              | true => exact absurd (.inr h3) hb
            rw [runD_next h (by omega) hs hs2 (by omega) ho]
            have hl : (acc ++ List.replicate (m + 1) (a : Int)).length = acc.length + (m + 1) := by rw [List.length_append, List.length_replicate]
            rcases ih (acc ++ List.replicate (m + 1) (a : Int)) ((ys.drop k).drop j) n (fun y hy => hr2 y (List.mem_of_mem_drop hy)) (by rw [hl]; omega) (by rw [hl]; omega) with ⟨c, h1, h2⟩ | ⟨t, h1, h2, h3, h4, h5⟩
            · exact .inl ⟨c, by simpa using h1, h2⟩
            · refine .inr ⟨List.replicate (m + 1) (a : Int) ++ t, by rw [← List.append_assoc]; simpa using h1, by rw [List.length_append, List.length_replicate]; omega, ?_, ?_, ?_⟩
              · rw [runE_first (joins_rep.1 h5), Int.toNat_natCast, ← h3, List.append_assoc, ← e2, ← e1]
              · intro x hx
                rcases List.mem_append.1 hx with hx | hx
                · have := List.eq_of_mem_replicate hx
                  omega
                · exact h4 x hx
              · intro x r e
                rw [List.replicate_succ] at e
                simp at e
                rw [← e.1]
                exact ho
    · rw [runD_done h (by omega)]
      by_cases hy : 0 < ys.length
      · rw [if_pos hy]; exact .inl ⟨3, rfl, .inr rfl⟩
      · rw [if_neg hy]
        have : ys = [] := List.eq_nil_of_length_eq_zero (by omega)
        subst this
        exact .inr ⟨[], by rw [List.append_nil], by simp; omega, rfl, (fun x hx => by cases hx), (fun x r e => by cases e)⟩

/-- DECODED OF WHAT WAS ENCODED, whatever stands behind. -/
theorem runD_enc (t : List Int) : ∀ (f : Nat) (acc z : List Int) (n : Nat), U64 t → n < 18446744073709551616 → acc.length + t.length = n → t.length < f → Joins acc t →
    runD f acc (runE t ++ z) n = if 0 < z.length then ([], 3) else (acc ++ t, 0) := by
  induction t using run_ind with
  | h0 =>
    intro f acc z n _ _ hn hf _
    simp at hn
    rw [runE, List.nil_append, runD_done (by omega) (by simpa using hf), List.append_nil]
  | h1 v m t ha ih =>
    intro f acc z n hu h64 hn hf hj
    rw [List.length_append, List.length_replicate] at hn hf
    have hv := hu.head
    obtain ⟨a, rfl⟩ := Int.eq_ofNat_of_zero_le hv.1
    rw [runE_first ha, Int.toNat_natCast]
    have e1 : gs a ++ gs m ++ runE t ++ z = gs a ++ (gs m ++ (runE t ++ z)) := by simp
    rw [e1]
    have hs := sVarint_gs a (gs m ++ (runE t ++ z)) (by omega)
    have ed : (gs a ++ (gs m ++ (runE t ++ z))).drop (gs a).length = gs m ++ (runE t ++ z) := by simp
    have hs2 := sVarint_gs m (runE t ++ z) (by omega)
    rw [← ed] at hs2
    rw [runD_next (by omega) (by omega) hs hs2 (by omega) (hj a (List.replicate m (a : Int) ++ t) (by rw [List.replicate_succ]; rfl)), ed]
    have ed2 : (gs m ++ (runE t ++ z)).drop (gs m).length = runE t ++ z := by simp
    rw [ed2, ih (f - 1) (acc ++ List.replicate (m + 1) (a : Int)) z n hu.tail h64 (by rw [List.length_append, List.length_replicate]; omega) (by omega) (joins_rep.2 ha), List.append_assoc]
theorem take_app (a b : List Int) (k : Nat) (h : a.length ≤ k) : (a ++ b).take k = a ++ b.take (k - a.length) := by
  rw [List.take_append, List.take_of_length_le h]
/-- CUT OFF it is too short. -/
theorem runD_cut (t : List Int) : ∀ (f : Nat) (acc : List Int) (n k : Nat), U64 t → n < 18446744073709551616 → acc.length + t.length = n → t.length < f → Joins acc t → k < (runE t).length →
    runD f acc ((runE t).take k) n = ([], 2) := by
  induction t using run_ind with
  | h0 => intro f acc n k _ _ _ _ _ hk; simp [runE] at hk
  | h1 v m t ha ih =>
    intro f acc n k hu h64 hn hf hj hk
    rw [List.length_append, List.length_replicate] at hn hf
    have hv := hu.head
    obtain ⟨a, rfl⟩ := Int.eq_ofNat_of_zero_le hv.1
    rw [runE_first ha, Int.toNat_natCast] at hk ⊢
    rw [List.append_assoc] at hk ⊢
    rcases Nat.lt_or_ge k (gs a).length with h1 | h1
    · have e : (gs a ++ (gs m ++ runE t)).take k = (gs a).take k := by rw [List.take_append_of_le_length (by omega)]
      rw [e]
      exact runD_err1 (by omega) (by omega) (sVarint_short a k (by omega) h1) (by decide)
    · rw [take_app _ _ _ h1]
      have hs := sVarint_gs a ((gs m ++ runE t).take (k - (gs a).length)) (by omega)
      have ed : (gs a ++ (gs m ++ runE t).take (k - (gs a).length)).drop (gs a).length = (gs m ++ runE t).take (k - (gs a).length) := by simp
      rw [List.length_append, List.length_append] at hk
      rcases Nat.lt_or_ge (k - (gs a).length) (gs m).length with h2 | h2
      · have e : (gs m ++ runE t).take (k - (gs a).length) = (gs m).take (k - (gs a).length) := by rw [List.take_append_of_le_length (by omega)]
        refine runD_err2 (by omega) (by omega) hs (b := 0) (j := 0) (c := 2) ?_ (by decide)
        rw [ed, e]
        exact sVarint_short m _ (by omega) h2
      · have hs2 := sVarint_gs m ((runE t).take (k - (gs a).length - (gs m).length)) (by omega)
        rw [take_app _ _ _ h2] at hs ed ⊢
        rw [← ed] at hs2
        rw [runD_next (by omega) (by omega) hs hs2 (by omega) (hj a (List.replicate m (a : Int) ++ t) (by rw [List.replicate_succ]; rfl)), ed]
        have ed2 : (gs m ++ (runE t).take (k - (gs a).length - (gs m).length)).drop (gs m).length = (runE t).take (k - (gs a).length - (gs m).length) := by simp
        rw [ed2]
        exact ih (f - 1) (acc ++ List.replicate (m + 1) (a : Int)) n _ hu.tail h64 (by rw [List.length_append, List.length_replicate]; omega) (by omega) (joins_rep.2 ha) (by omega)
/-- AS FEWER NUMBERS it is refused. -/
theorem runD_less (t : List Int) : ∀ (f : Nat) (acc : List Int) (n : Nat), U64 t → t.length < 18446744073709551616 → acc.length ≤ n → n < acc.length + t.length → n - acc.length < f → Joins acc t →
    runD f acc (runE t) n = ([], 3) := by
  induction t using run_ind with
  | h0 => intro f acc n _ _ h1 h2; simp at h2; omega
  | h1 v m t ha ih =>
    intro f acc n hu h64 hn hl hf hj
    rw [List.length_append, List.length_replicate] at hl h64
    have hv := hu.head
    obtain ⟨a, rfl⟩ := Int.eq_ofNat_of_zero_le hv.1
    rw [runE_first ha, Int.toNat_natCast]
    by_cases h : acc.length < n
    · rw [List.append_assoc]
      have hs := sVarint_gs a (gs m ++ runE t) (by omega)
      have ed : (gs a ++ (gs m ++ runE t)).drop (gs a).length = gs m ++ runE t := by simp
      have hs2 := sVarint_gs m (runE t) (by omega)
      rw [← ed] at hs2
      by_cases hm : n - acc.length ≤ m
      · exact runD_err3 h (by omega) hs hs2 (.inl hm)
      · rw [runD_next h (by omega) hs hs2 (by omega) (hj a (List.replicate m (a : Int) ++ t) (by rw [List.replicate_succ]; rfl)), ed]
        have ed2 : (gs m ++ runE t).drop (gs m).length = runE t := by simp
        rw [ed2]
        exact ih (f - 1) (acc ++ List.replicate (m + 1) (a : Int)) n hu.tail (by omega) (by rw [List.length_append, List.length_replicate]; omega) (by rw [List.length_append, List.length_replicate]; omega) (by rw [List.length_append, List.length_replicate]; omega) (joins_rep.2 ha)
    · rw [runD_done h (by omega), if_pos]
      rw [List.length_append, List.length_append]
      have := gs_pos a
      omega

/-! how many runs, how many bytes that end a number -/
def ends (l : List Int) : Nat := l.countP fun y => decide (y < 128)
theorem ends_gs (v : Nat) : ends (gs v) = 1 := by
  induction v using Nat.strongRecOn with
  | _ v ih =>
    rcases Nat.lt_or_ge v 128 with h | h
    · rw [gs_small h]
      simp [ends]
      omega
    · rw [gs_big h]
      have := ih (v / 128) (by omega)
      unfold ends at *
      rw [List.countP_cons_of_neg (by simp; omega), this]
/-- how many runs open in t, behind the number v -/
def opens : Int → List Int → Nat
  | _, [] => 0
  | v, x :: t => (if x = v then 0 else 1) + opens x t
theorem ends_runR (t : List Int) : ∀ (v : Int) (k : Nat), ends (runR v k t) = 2 + 2 * opens v t := by
  induction t with
  | nil => intro v k; rw [runR, opens]; unfold ends; rw [List.countP_append]; have h1 := ends_gs v.toNat; have h2 := ends_gs k; unfold ends at h1 h2; omega
  | cons x t ih =>
    intro v k
    rw [runR, opens]
    by_cases h : x = v
    · rw [if_pos h, if_pos h, ih, h]; omega
    · rw [if_neg h, if_neg h]
      have h3 := ih x 0
      unfold ends at *
      rw [List.countP_append, List.countP_append, h3]
      have h1 := ends_gs v.toNat
      have h2 := ends_gs k
      unfold ends at h1 h2
      omega
theorem opens_drop (l : List Int) (k : Nat) (h : k < l.length) (v : Int) : opens v (l.drop k) = (if l.getD k 0 = v then 0 else 1) + opens (l.getD k 0) (l.drop (k + 1)) := by
  rw [List.drop_eq_getElem_cons h, opens, List.getD_eq_getElem?_getD, List.getElem?_eq_getElem h]
  rfl
theorem ends_drop (l : List Int) (k : Nat) (h : k < l.length) : ends (l.drop k) = (if l.getD k 0 < 128 then 1 else 0) + ends (l.drop (k + 1)) := by
  rw [List.drop_eq_getElem_cons h, List.getD_eq_getElem?_getD, List.getElem?_eq_getElem h]
  unfold ends
  rw [List.countP_cons]
  simp [Nat.add_comm]
theorem ends_le (l : List Int) : ends l ≤ l.length := List.countP_le_length
theorem opens_le (t : List Int) : ∀ v, opens v t ≤ t.length := by
  induction t with
  | nil => intro v; simp [opens]
  | cons x t ih =>
    intro v
    rw [opens, List.length_cons]
    have := ih x
    split <;> omega
end Go.Proofs.YthapipgaohlgdabGreatDoor

/- Contracts of package cursor: Fix, and Block of bytes. -/
namespace Go.Proofs.YthapipgaohlgdabGreatDoor
open Go.RowKit

/-- byte i of a number, the lowest one being 0 -/
def fixB (v : Int) (i : Nat) : Int := v / 2 ^ (8 * i) % 256
/-- n bytes, of which the k last are written -/
def fixAt (v : Int) (n k : Nat) : List Int := (List.range n).map fun j => if n ≤ j + k then fixB v (n - 1 - j) else 0
def fixL (v : Int) (n : Nat) : List Int := (List.range n).map fun j => fixB v (n - 1 - j)
theorem fixAt_len (v : Int) (n k : Nat) : (fixAt v n k).length = n := by simp [fixAt]
theorem fixL_len (v : Int) (n : Nat) : (fixL v n).length = n := by simp [fixL]
theorem fixAt_zero (v : Int) (n : Nat) : (fixAt v n 0).map (Value.int .u8) = (madeCells #[Value.int .u8 0] (n * 1)).toList := by
  apply List.ext_getElem?
  intro i
  by_cases h : i < n
  · simp [fixAt, madeCells, h, Nat.mod_one]
    omega
  · simp [fixAt, madeCells, h]
theorem fixAt_all (v : Int) (n : Nat) : fixAt v n n = fixL v n := by
  unfold fixAt fixL
  apply List.map_congr_left
  intro j _
  rw [if_pos (by omega)]
theorem fixAt_step (v : Int) (n k : Nat) (h : k < n) : (fixAt v n k).set (n - 1 - k) (fixB v k) = fixAt v n (k + 1) := by
  apply List.ext_getElem?
  intro i
  rw [List.getElem?_set, fixAt_len]
  by_cases hi : i < n
  · by_cases he : n - 1 - k = i
    · subst he
      rw [if_pos rfl, if_pos hi]
      simp only [fixAt, List.getElem?_map, List.getElem?_range hi, Option.map_some]
      rw [if_pos (by omega), show n - 1 - (n - 1 - k) = k by omega]
    · rw [if_neg he]
      simp only [fixAt, List.getElem?_map, List.getElem?_range hi, Option.map_some]
      by_cases h1 : n ≤ i + k
      · rw [if_pos h1, if_pos (by omega)]
      · rw [if_neg h1, if_neg (by omega)]
  · rw [if_neg (by omega), List.getElem?_eq_none (by rw [fixAt_len]; omega), List.getElem?_eq_none (by rw [fixAt_len]; omega)]
theorem fixB_range (v : Int) (i : Nat) : 0 ≤ fixB v i ∧ fixB v i ≤ 255 := by unfold fixB; omega
theorem fixL_range (v : Int) (n : Nat) : ∀ y ∈ fixL v n, 0 ≤ y ∧ y ≤ 255 := by
  intro y hy
  simp only [fixL, List.mem_map] at hy
  obtain ⟨j, _, rfl⟩ := hy
  exact fixB_range _ _

set_option maxHeartbeats 400000 in
set_option maxRecDepth 100000 in
theorem fix_none (v n : Int) (w : World) (h : n < 0 ∨ 8 < n) : Calls Tryz.prog 57 #[.int .u64 v, .int .i64 n] w fun e w' => e = .returned (.slice none 0 0) ∧ w = w' := by
  by_cases h0 : n < 0
  · clear h
    go_enter Tryz.func57, Tryz.ntmps57
    go_wp2
    go_ret
    exact ⟨rfl, rfl⟩
  · have h8 : 8 < n := by omega
    have d0 : decide (n < 0) = false := decide_eq_false h0
    clear h
    go_enter Tryz.func57, Tryz.ntmps57
    go_wp2
    go_ret
    exact ⟨rfl, rfl⟩

set_option maxHeartbeats 400000 in
set_option maxRecDepth 100000 in
/-- A NUMBER in so many bytes: new memory. -/
theorem fix_any (v : Int) (n : Nat) (w : World) (h : n ≤ 8) :
    Calls Tryz.prog 57 #[.int .u64 v, .int .i64 n] w fun e w' => ∃ u, e = .returned u ∧ w'.ownsRow w.heap.size 5 1 u (fixL v n).length ((fixL v n).map (Value.int .u8)) ∧ Only (fun _ => False) w w' := by
  obtain ⟨i0, hi, hz0, hz1, hz2⟩ := info_parts Tryz.infoU8
  obtain ⟨wm, hmk, hown0, hgr⟩ := run_make_full (P := Tryz.prog) w w.heap.size 29 5 i0 (.int .u8 0) 1 Tryz.underlying29 hi hz0 hz1 .i64 .i64 n (by rw [hz2]; omega) (by unfold maxLen; omega) (Nat.le_refl _)
  have START : Hid (wm.ownsRow w.heap.size 5 1 (.slice (some ⟨w.heap.size, 0, none⟩) n n) n ((fixAt v n 0).map (Value.int .u8)) ∧ Only (fun _ => False) w wm) := by
    rw [show (Value.int .u8 0).cells = #[Value.int .u8 0] from rfl] at hown0
    rw [fixAt_zero]
    exact ⟨hown0, (Only.refl _ _).grown hgr (fun _ _ e => by cases e)⟩
  clear hown0 hgr
  have d0 : decide ((n : Int) < 0) = false := by simp
  have d8 : decide (8 < (n : Int)) = false := decide_eq_false (by omega)
  obtain ⟨N, hN⟩ : ∃ N, N = w.heap.size := ⟨_, rfl⟩
  rw [← hN] at hmk START
  rw [← hN]
  have HN := hideIt hN
  clear hN
  go_enter Tryz.func57, Tryz.ntmps57
  go_wp2
  go_loopw [17] (fun i wr => ∃ k : Nat, k ≤ n ∧ i = .int .i64 k ∧ wr.ownsRow N 5 1 (.slice (some ⟨N, 0, none⟩) n n) n ((fixAt v n k).map (Value.int .u8)) ∧ Only (fun _ => False) w wr) (fun i _ => n - (intOf i).toNat)
  case atStart => exact ⟨0, Nat.zero_le _, rfl, START.out.1, START.out.2⟩
  case round =>
    obtain ⟨k, hk, rfl, hown, hon⟩ := hrel
    clear START hmk
    by_cases hlt : k < n
    · have hcell : ∃ y, wr.cell? ⟨N, n - 1 - k, none⟩ = some (.int .u8 y) := by
        refine ⟨(fixAt v n k).getD (n - 1 - k) 0, ?_⟩
        rw [hown.cellAt (n - 1 - k) (by omega), List.getElem?_map, List.getElem?_eq_getElem (by rw [fixAt_len]; omega), List.getD_eq_getElem?_getD, List.getElem?_eq_getElem (by rw [fixAt_len]; omega)]
        rfl
      obtain ⟨y, hy⟩ := hcell
      have hfr : wr.frozen? ⟨N, n - 1 - k, none⟩ = false := hown.frozenAt _
      have i0 : (0 : Int) ≤ (n : Int) - 1 - k := by omega
      have i1 : (n : Int) - 1 - k < (n : Int) := by omega
      have it : ((n : Int) - 1 - k).toNat = n - 1 - k := by omega
      have H := hideIt (And.intro hown hon)
      clear hown hon
      go_wp2
      go_roundw
      case rel =>
        refine ⟨k + 1, by omega, by go_num, ?_, ?_⟩
        · have h1 := (H.out.1.stored (n - 1 - k) (.int .u8 (fixB v k))).1
          rw [← List.map_set, fixAt_step v n k hlt] at h1
          exact h1
        · refine H.out.2.setCell (fun hb => ?_) _
          have := HN.out
          simp only at hb
          omega
      case measure => simp [intOf]; omega
    · have hkn : k = n := by omega
      subst hkn
      have H := hideIt (And.intro hown hon)
      clear hown hon
      go_wp2
      go_ret
      rw [fixL_len, ← fixAt_all]
      exact ⟨_, rfl, H.out⟩

/-- bytes behind their number -/
def blk (b : List Int) : List Int := gs b.length ++ b
theorem blk_len (b : List Int) (h : b.length ≤ 1000000) : (blk b).length ≤ b.length + 10 := by
  have := gs_le10 (v := b.length) (by omega)
  simp only [blk, List.length_append]
  omega
theorem blk_range (b : List Int) (hr : ∀ y ∈ b, 0 ≤ y ∧ y ≤ 255) : ∀ y ∈ blk b, 0 ≤ y ∧ y ≤ 255 := by
  intro y hy
  simp only [blk, List.mem_append] at hy
  rcases hy with hy | hy
  · exact gs_range _ y hy
  · exact hr y hy

set_option maxHeartbeats 400000 in
set_option maxRecDepth 100000 in
/-- BYTES BEHIND THEIR NUMBER: new memory. -/
theorem blk_any (vb : Value) (ys : List Int) (w : World) (hb : Bs .u8 w vb ys) (nb : NoCap vb) (hl : ys.length ≤ 1000000) :
    Calls Tryz.prog 13 #[vb] w fun e w' => ∃ v', e = .returned v' ∧ w'.ownsRow w.heap.size 5 1 v' (blk ys).length ((blk ys).map (Value.int .u8)) ∧ Only (fun _ => False) w w' := by
  have HB := hideIt hb
  have NB := hideIt nb
  have A := hideIt (append_any (.slice none 0 0) [] ys.length w (Bs.nil _ _) NoCap.nil (by simp) (by omega) (by omega))
  rw [List.nil_append, Int.toNat_natCast] at A
  have H10 := hideIt (gs_le10 (v := ys.length) (by omega))
  have HP := hideIt (gs_pos ys.length)
  obtain ⟨ab, cb, rfl⟩ := hb.len
  clear hb nb
  go_enter Tryz.func13, Tryz.ntmps13
  go_wp2_with fail
  refine A.out.mono ?_
  rintro e w1 ⟨v1, rfl, hown1, hon1⟩
  have hbl : Below w1.heap.size w1 (w1.alloc (.cells #[v1, .slice ab ys.length cb] 29)) := (Below.refl _ _).alloc (Nat.le_refl _) _
  have CC := hideIt (concat_two w1.heap.size v1 (.slice ab ys.length cb) (gs ys.length) ys (w1.alloc (.cells #[v1, .slice ab ys.length cb] 29)) (by go_cell) (by go_cell) ((Bs.of_own hown1).later hbl) ((HB.out.later (hon1.low (Nat.le_refl _))).later hbl) (NoCap.of_own hown1) NB.out (by have := HP.out; omega) (by have := H10.out; omega))
  have O1 := hideIt hon1
  have F1 : Hid (∃ ao c, v1 = .slice ao (gs ys.length).length c) := (Bs.of_own hown1).len
  clear hown1 hon1 hbl A
  obtain ⟨ao1, c1, hv1⟩ := F1.out
  subst hv1
  go_wp2_with fail
  refine CC.out.mono ?_
  rintro e w2 ⟨v', rfl, hown, hon⟩
  have F : Hid (w2.ownsRow w.heap.size 5 1 v' (blk ys).length ((blk ys).map (Value.int .u8)) ∧ Only (fun _ => False) w w2) :=
    ⟨own_low hown (by have := O1.out.size; simp; omega), (O1.out.alloc _).trans hon (fun _ _ f => f)⟩
  clear hown hon CC O1
  go_wp2
  go_ret
  exact ⟨_, rfl, F.out⟩
end Go.Proofs.YthapipgaohlgdabGreatDoor

/- A chunk as a list of bytes: what is written, what is read, one piece behind the other; over any two codecs of numbers. -/
namespace Go.Proofs.YthapipgaohlgdabGreatDoor
open Go.RowKit

/-! blocks -/
theorem sBlk_back (b t : List Int) (n : Int) (hb : b.length ≤ 1000000) (hn : (b.length : Int) ≤ n) : sBlock n (blk b ++ t) = (b, (blk b).length, 0) := by
  unfold sBlock blk
  rw [List.append_assoc, sVarint_gs _ _ (by omega), if_neg (by omega), if_neg (by simp), if_neg (by simp; omega), if_neg (by simp [List.length_append]; omega)]
  simp
theorem sBlk_cut (b : List Int) (k : Nat) (n : Int) (hb : b.length ≤ 1000000) (hn : (b.length : Int) ≤ n) (hk : k < (blk b).length) : sBlock n ((blk b).take k) = ([], 0, 2) := by
  have hl : (blk b).length = (gs b.length).length + b.length := by rw [blk, List.length_append]
  by_cases h : k < (gs b.length).length
  · have e : (blk b).take k = (gs b.length).take k := by rw [blk, List.take_append_of_le_length (by omega)]
    rw [e, sBlock, if_neg (by omega), sVarint_short _ _ (by omega) h, if_pos (by simp)]
  · have e : (blk b).take k = gs b.length ++ b.take (k - (gs b.length).length) := by
      rw [blk, List.take_append, List.take_of_length_le (by omega)]
    rw [e, sBlock, if_neg (by omega), sVarint_gs _ _ (by omega), if_neg (by simp), if_neg (by simp; omega), if_pos (by simp only [List.length_append, List.length_take]; omega)]
/-- a block's error, and nothing beside it; or a block, and the bytes are its own -/
theorem sBlk_cases {ys : List Int} {n : Int} (hr : ∀ y ∈ ys, 0 ≤ y ∧ y ≤ 255) (hn : 0 ≤ n) (hn1 : n ≤ 1000000) :
    (∃ c, sBlock n ys = ([], 0, c) ∧ (c = 2 ∨ c = 3 ∨ c = 4)) ∨ (∃ b k, sBlock n ys = (b, k, 0) ∧ (b.length : Int) ≤ n ∧ k ≤ ys.length ∧ 1 ≤ k ∧ ys = blk b ++ ys.drop k ∧ k = (blk b).length) := by
  unfold sBlock
  rw [if_neg (by omega)]
  rcases sVarint_cases hr with ⟨c, h, hc⟩ | ⟨a, k, h, h1, h2, h3, h4⟩
  · rw [h, if_pos (by rcases hc with rfl | rfl <;> simp)]
    exact .inl ⟨c, rfl, by omega⟩
  · rw [h, if_neg (by simp)]
    simp only
    by_cases c1 : n < (a : Int)
    · rw [if_pos c1]; exact .inl ⟨4, rfl, by omega⟩
    · rw [if_neg c1]
      by_cases c2 : (ys.length : Int) - k < a
      · rw [if_pos c2]; exact .inl ⟨2, rfl, by omega⟩
      · rw [if_neg c2, Int.toNat_natCast]
        have hkg : k = (gs a).length := by
          have := congrArg List.length h4
          rw [List.length_append, List.length_drop] at this
          omega
        have hbl : ((ys.drop k).take a).length = a := by rw [List.length_take, List.length_drop]; omega
        refine .inr ⟨(ys.drop k).take a, k + a, rfl, by rw [hbl]; omega, by omega, by omega, ?_, ?_⟩
        · unfold blk
          rw [hbl, List.append_assoc, ← List.drop_drop, List.take_append_drop]
          exact h4
        · unfold blk
          rw [List.length_append, hbl, hkg]

def chNone : (List Int × List (Int × Int)) := ([], [])
def MOST (n : Int) : Int := if n < 0 then 1 else 1 + 8 * min n 65536
section
variable (e8 e11 : List Int → List Int) (d8 d11 : List Int → Int → List Int × Int)
/-- what is written -/
def ENC12 (tn : List Int) (s : List (Int × Int)) : List Int × Int :=
  if 64 < tn.length ∨ 65536 < s.length then ([], 4) else (1 :: (blk tn ++ (gs s.length ++ (blk (e8 (s.map Prod.fst)) ++ blk (e11 (s.map Prod.snd))))), 0)
/-- what is read, from the end on -/
def C5 (tn : List Int) (n : Int) (ti va rest : List Int) : (List Int × List (Int × Int)) × Int :=
  if rest ≠ [] then (chNone, 3) else if (d8 ti n).2 ≠ 0 then (chNone, (d8 ti n).2) else if (d11 va n).2 ≠ 0 then (chNone, (d11 va n).2) else ((tn, (d8 ti n).1.zip (d11 va n).1), 0)
def C4 (tn : List Int) (n : Int) (ti ys : List Int) : (List Int × List (Int × Int)) × Int :=
  if (sBlock (MOST n) ys).2.2 ≠ 0 then (chNone, (sBlock (MOST n) ys).2.2) else C5 d8 d11 tn n ti (sBlock (MOST n) ys).1 (ys.drop (sBlock (MOST n) ys).2.1)
def C3 (tn : List Int) (n : Int) (ys : List Int) : (List Int × List (Int × Int)) × Int :=
  if (sBlock (MOST n) ys).2.2 ≠ 0 then (chNone, (sBlock (MOST n) ys).2.2) else C4 d8 d11 tn n (sBlock (MOST n) ys).1 (ys.drop (sBlock (MOST n) ys).2.1)
def C2 (tn : List Int) (ys : List Int) : (List Int × List (Int × Int)) × Int :=
  if (sVarint ys).2.2 ≠ 0 then (chNone, (sVarint ys).2.2) else if 65536 < (sVarint ys).1 then (chNone, 4) else C3 d8 d11 tn (sVarint ys).1 (ys.drop (sVarint ys).2.1)
def C1 (ys : List Int) : (List Int × List (Int × Int)) × Int :=
  if (sBlock 64 ys).2.2 ≠ 0 then (chNone, (sBlock 64 ys).2.2) else C2 d8 d11 (sBlock 64 ys).1 (ys.drop (sBlock 64 ys).2.1)
def DEC12 (b : List Int) : (List Int × List (Int × Int)) × Int :=
  if b = [] then (chNone, 2) else if b.getD 0 0 ≠ 1 then (chNone, 3) else C1 d8 d11 (b.drop 1)
end

theorem MOST_nat {n : Nat} (h : n ≤ 65536) : MOST n = 1 + 8 * n := by unfold MOST; rw [if_neg (by omega)]; omega
/-- the codecs: what is asked of them -/
structure Codec (e : List Int → List Int) (d : List Int → Int → List Int × Int) (G : List Int → Prop) : Prop where
  back : ∀ l, G l → l.length ≤ 65536 → d (e l) l.length = (l, 0)
  ok : ∀ b (n : Int), (∀ y ∈ b, 0 ≤ y ∧ y ≤ 255) → (d b n).2 = 0 → ((d b n).1.length : Int) = n ∧ G (d b n).1 ∧ e (d b n).1 = b
  len : ∀ l, l.length ≤ 65536 → (e l).length ≤ 1 + 8 * l.length
variable {e8 e11 : List Int → List Int} {d8 d11 : List Int → Int → List Int × Int} {G8 G11 : List Int → Prop}

theorem sVarint_more {v : Nat} {ys : List Int} (h : v < 18446744073709551616) (e : ys = gs v) : sVarint ys = ((v : Int), ys.length, 0) := by
  subst e
  have := sVarint_gs v [] h
  rwa [List.append_nil] at this

theorem C5_ok (K8 : Codec e8 d8 G8) (K11 : Codec e11 d11 G11) {tn : List Int} {s : List (Int × Int)} (g8 : G8 (s.map Prod.fst)) (g11 : G11 (s.map Prod.snd)) (hs : s.length ≤ 65536) : C5 d8 d11 tn s.length (e8 (s.map Prod.fst)) (e11 (s.map Prod.snd)) [] = ((tn, s), 0) := by
  have h1 := K8.back _ g8 (by rw [List.length_map]; exact hs)
  have h2 := K11.back _ g11 (by rw [List.length_map]; exact hs)
  rw [List.length_map] at h1 h2
  unfold C5
  rw [if_neg (by simp), h1, if_neg (by simp), h2, if_neg (by simp)]
  simp only
  congr 2
  rw [List.zip_map']
  exact (List.map_congr_left (g := id) (fun x _ => rfl)).trans (List.map_id s)
theorem DEC12_parts (K8 : Codec e8 d8 G8) (K11 : Codec e11 d11 G11) {tn : List Int} {s : List (Int × Int)} (ht : tn.length ≤ 64) (hs : s.length ≤ 65536) (r : List Int) :
    DEC12 d8 d11 ((ENC12 e8 e11 tn s).1 ++ r) = C5 d8 d11 tn s.length (e8 (s.map Prod.fst)) (e11 (s.map Prod.snd)) r := by
  have l8 := K8.len (s.map Prod.fst) (by rw [List.length_map]; exact hs)
  have l11 := K11.len (s.map Prod.snd) (by rw [List.length_map]; exact hs)
  rw [List.length_map] at l8 l11
  unfold ENC12
  rw [if_neg (by omega)]
  simp only [List.cons_append, List.append_assoc]
  unfold DEC12
  rw [if_neg (List.cons_ne_nil _ _), List.getD_cons_zero, if_neg (by simp), List.drop_succ_cons, List.drop_zero]
  unfold C1
  rw [sBlk_back tn _ 64 (by omega) (by omega), if_neg (by simp)]
  simp only [List.drop_left]
  unfold C2
  rw [sVarint_gs _ _ (by omega), if_neg (by simp)]
  simp only [List.drop_left]
  rw [if_neg (by omega)]
  unfold C3
  rw [MOST_nat hs, sBlk_back _ _ _ (by omega) (by omega), if_neg (by simp)]
  simp only [List.drop_left]
  unfold C4
  rw [MOST_nat hs, sBlk_back _ _ _ (by omega) (by omega), if_neg (by simp)]
  simp only [List.drop_left]
/-- there and back -/
theorem DEC12_ENC12 (K8 : Codec e8 d8 G8) (K11 : Codec e11 d11 G11) {tn : List Int} {s : List (Int × Int)} (ht : tn.length ≤ 64) (hs : s.length ≤ 65536) (g8 : G8 (s.map Prod.fst)) (g11 : G11 (s.map Prod.snd)) : DEC12 d8 d11 (ENC12 e8 e11 tn s).1 = ((tn, s), 0) := by
  have := DEC12_parts K8 K11 ht hs []
  rw [List.append_nil] at this
  rw [this]
  exact C5_ok K8 K11 g8 g11 hs
theorem DEC12_more (K8 : Codec e8 d8 G8) (K11 : Codec e11 d11 G11) {tn : List Int} {s : List (Int × Int)} {r : List Int} (ht : tn.length ≤ 64) (hs : s.length ≤ 65536) (hr : r ≠ []) : DEC12 d8 d11 ((ENC12 e8 e11 tn s).1 ++ r) = (chNone, 3) := by
  rw [DEC12_parts K8 K11 ht hs r]
  unfold C5
  rw [if_pos hr]
/-- cut off anywhere it is too short -/
theorem DEC12_cut (K8 : Codec e8 d8 G8) (K11 : Codec e11 d11 G11) {tn : List Int} {s : List (Int × Int)} {k : Nat} (ht : tn.length ≤ 64) (hs : s.length ≤ 65536) (hk : k < (ENC12 e8 e11 tn s).1.length) : DEC12 d8 d11 ((ENC12 e8 e11 tn s).1.take k) = (chNone, 2) := by
  have l8 := K8.len (s.map Prod.fst) (by rw [List.length_map]; exact hs)
  have l11 := K11.len (s.map Prod.snd) (by rw [List.length_map]; exact hs)
  rw [List.length_map] at l8 l11
  unfold ENC12 at hk ⊢
  rw [if_neg (by omega)] at hk ⊢
  simp only [List.length_cons, List.length_append] at hk ⊢
  unfold DEC12
  cases k with
  | zero => rw [List.take_zero, if_pos rfl]
  | succ k =>
    rw [List.take_succ_cons, if_neg (List.cons_ne_nil _ _), List.getD_cons_zero, if_neg (by simp), List.drop_succ_cons, List.drop_zero]
    unfold C1
    by_cases k1 : k < (blk tn).length
    · rw [List.take_append_of_le_length (by omega), sBlk_cut tn k 64 (by omega) (by omega) k1, if_pos (by simp)]
    · rw [List.take_append, List.take_of_length_le (by omega), sBlk_back tn _ 64 (by omega) (by omega), if_neg (by simp)]
      simp only [List.drop_left]
      unfold C2
      obtain ⟨k', hk'⟩ : ∃ k', k' = k - (blk tn).length := ⟨_, rfl⟩
      rw [← hk']
      by_cases k2 : k' < (gs s.length).length
      · rw [List.take_append_of_le_length (by omega), sVarint_short _ _ (by omega) k2, if_pos (by simp)]
      · rw [List.take_append, List.take_of_length_le (by omega), sVarint_gs _ _ (by omega), if_neg (by simp)]
        simp only [List.drop_left]
        rw [if_neg (by omega)]
        unfold C3
        rw [MOST_nat hs]
        obtain ⟨k3, hk3⟩ : ∃ k3, k3 = k' - (gs s.length).length := ⟨_, rfl⟩
        rw [← hk3]
        by_cases k4 : k3 < (blk (e8 (s.map Prod.fst))).length
        · rw [List.take_append_of_le_length (by omega), sBlk_cut _ _ _ (by omega) (by omega) k4, if_pos (by simp)]
        · rw [List.take_append, List.take_of_length_le (by omega), sBlk_back _ _ _ (by omega) (by omega), if_neg (by simp)]
          simp only [List.drop_left]
          unfold C4
          rw [MOST_nat hs, sBlk_cut _ _ _ (by omega) (by omega) (by omega), if_pos (by simp)]
theorem drop_rng {ys : List Int} {k : Nat} (hr : ∀ y ∈ ys, 0 ≤ y ∧ y ≤ 255) : ∀ y ∈ ys.drop k, 0 ≤ y ∧ y ≤ 255 := fun y hy => hr y (List.mem_of_mem_drop hy)
/-- ONE WAY ALONE -/
theorem DEC12_ok (K8 : Codec e8 d8 G8) (K11 : Codec e11 d11 G11) {b : List Int} (hr : ∀ y ∈ b, 0 ≤ y ∧ y ≤ 255) (h : (DEC12 d8 d11 b).2 = 0) :
    ENC12 e8 e11 (DEC12 d8 d11 b).1.1 (DEC12 d8 d11 b).1.2 = (b, 0) ∧ (DEC12 d8 d11 b).1.1.length ≤ 64 ∧ (DEC12 d8 d11 b).1.2.length ≤ 65536 ∧ G8 ((DEC12 d8 d11 b).1.2.map Prod.fst) ∧ G11 ((DEC12 d8 d11 b).1.2.map Prod.snd) := by
  unfold DEC12 at *
  by_cases hb : b = []
  · rw [if_pos hb] at h; cases h
  rw [if_neg hb] at h ⊢
  by_cases h1 : b.getD 0 0 ≠ 1
  · rw [if_pos h1] at h; cases h
  rw [if_neg h1] at h ⊢
  have hb1 : b = 1 :: b.drop 1 := by
    cases b with
    | nil => exact absurd rfl hb
    | cons x t => simp only [List.getD_cons_zero, ne_eq, Classical.not_not] at h1; rw [h1]; rfl
  have r1 := drop_rng (k := 1) hr
  generalize b.drop 1 = y1 at *
  unfold C1 at *
  rcases sBlk_cases (n := 64) r1 (by omega) (by omega) with ⟨c, e, hc⟩ | ⟨tn, k1, e, hl1, _, _, e1, _⟩
  · rw [e] at h; rw [if_pos (by simp only; omega)] at h; simp only at h; omega
  rw [e] at h ⊢
  rw [if_neg (by simp)] at h ⊢
  simp only at h ⊢
  have r2 := drop_rng (k := k1) r1
  generalize y1.drop k1 = y2 at *
  unfold C2 at *
  rcases sVarint_cases r2 with ⟨c, e, hc⟩ | ⟨n, k2, e, _, _, _, e2⟩
  · rw [e] at h; rw [if_pos (by simp only; omega)] at h; simp only at h; omega
  rw [e] at h ⊢
  rw [if_neg (by simp)] at h ⊢
  simp only at h ⊢
  by_cases hn : 65536 < (n : Int)
  · rw [if_pos hn] at h; cases h
  rw [if_neg hn] at h ⊢
  have r3 := drop_rng (k := k2) r2
  generalize y2.drop k2 = y3 at *
  unfold C3 at *
  have hM := MOST_nat (n := n) (by omega)
  rcases sBlk_cases (n := MOST n) r3 (by omega) (by omega) with ⟨c, e, hc⟩ | ⟨ti, k3, e, hl3, _, _, e3, _⟩
  · rw [e] at h; rw [if_pos (by simp only; omega)] at h; simp only at h; omega
  rw [e] at h ⊢
  rw [if_neg (by simp)] at h ⊢
  simp only at h ⊢
  have rti : ∀ y ∈ ti, 0 ≤ y ∧ y ≤ 255 := fun y hy => r3 y (by rw [e3]; unfold blk; simp [hy])
  have r4 := drop_rng (k := k3) r3
  generalize y3.drop k3 = y4 at *
  unfold C4 at *
  rcases sBlk_cases (n := MOST n) r4 (by omega) (by omega) with ⟨c, e, hc⟩ | ⟨va, k4, e, hl4, _, _, e4, _⟩
  · rw [e] at h; rw [if_pos (by simp only; omega)] at h; simp only at h; omega
  rw [e] at h ⊢
  rw [if_neg (by simp)] at h ⊢
  simp only at h ⊢
  have rva : ∀ y ∈ va, 0 ≤ y ∧ y ≤ 255 := fun y hy => r4 y (by rw [e4]; unfold blk; simp [hy])
  generalize y4.drop k4 = y5 at *
  unfold C5 at *
  by_cases h5 : y5 ≠ []
  · rw [if_pos h5] at h; cases h
  rw [if_neg h5] at h ⊢
  have h5' : y5 = [] := Classical.not_not.1 h5
  by_cases h6 : (d8 ti n).2 ≠ 0
  · rw [if_pos h6] at h; exact absurd h h6
  rw [if_neg h6] at h ⊢
  by_cases h7 : (d11 va n).2 ≠ 0
  · rw [if_pos h7] at h; exact absurd h h7
  rw [if_neg h7]
  obtain ⟨a1, a2, a3⟩ := K8.ok ti n rti (by simpa using h6)
  obtain ⟨b1, b2, b3⟩ := K11.ok va n rva (by simpa using h7)
  have hz1 : ((d8 ti n).1.zip (d11 va n).1).map Prod.fst = (d8 ti n).1 := List.map_fst_zip (by omega)
  have hz2 : ((d8 ti n).1.zip (d11 va n).1).map Prod.snd = (d11 va n).1 := List.map_snd_zip (by omega)
  have hzl : ((d8 ti n).1.zip (d11 va n).1).length = n := by rw [List.length_zip]; omega
  simp only
  refine ⟨?_, by omega, by rw [hzl]; omega, by rw [hz1]; exact a2, by rw [hz2]; exact b2⟩
  unfold ENC12
  rw [if_neg (by rw [hzl]; omega), hz1, hz2, hzl, a3, b3]
  congr 1
  rw [hb1, e1, e2, e3, e4, h5', List.append_nil]
theorem DEC12_err {b : List Int} : (DEC12 d8 d11 b).2 ≠ 0 → (DEC12 d8 d11 b).1 = chNone := by
  unfold DEC12
  by_cases hb : b = []
  · rw [if_pos hb]; exact fun _ => rfl
  rw [if_neg hb]
  by_cases h1 : b.getD 0 0 ≠ 1
  · rw [if_pos h1]; exact fun _ => rfl
  rw [if_neg h1]
  unfold C1
  by_cases h2 : (sBlock 64 (b.drop 1)).2.2 ≠ 0
  · rw [if_pos h2]; exact fun _ => rfl
  rw [if_neg h2]
  unfold C2
  split
  · exact fun _ => rfl
  split
  · exact fun _ => rfl
  unfold C3
  split
  · exact fun _ => rfl
  unfold C4
  split
  · exact fun _ => rfl
  unfold C5
  split
  · exact fun _ => rfl
  split
  · exact fun _ => rfl
  split
  · exact fun _ => rfl
  exact fun h => absurd rfl h
end Go.Proofs.YthapipgaohlgdabGreatDoor

/- The arithmetic of differences and sums that go round. -/
namespace Go.Proofs.YthapipgaohlgdabGreatDoor
open Go.RowKit

/-- numbers of 64 bits with a sign -/
def G64 (x : Int) : Prop := -9223372036854775808 ≤ x ∧ x ≤ 9223372036854775807
theorem w64_g (x : Int) : G64 (wrap64 x) := by unfold G64 wrap64; omega
theorem w64_id {x : Int} (h : G64 x) : wrap64 x = x := by unfold G64 at h; unfold wrap64; omega
theorem w64_back {a x : Int} (h : G64 x) : wrap64 (a + wrap64 (x - a)) = x := by unfold G64 at h; unfold wrap64; omega
theorem w64_forth {a x : Int} (h : G64 x) : wrap64 (wrap64 (a + x) - a) = x := by unfold G64 at h; unfold wrap64; omega
theorem w64_both (a b y : Int) : wrap64 (wrap64 (a + y) - wrap64 (b + y)) = wrap64 (a - b) := by unfold wrap64; omega
theorem w64_neg (a b : Int) : wrap64 (wrap64 (-a) - wrap64 (-b)) = wrap64 (-wrap64 (a - b)) := by unfold wrap64; omega
theorem w64_step (x s : Int) (h : G64 s) : wrap64 (wrap64 (x + s) - x) = s := by unfold G64 at h; unfold wrap64; omega

/-- each one less the one ahead -/
def dif : Int → List Int → List Int
  | _, [] => []
  | a, x :: t => wrap64 (x - a) :: dif x t
/-- each one and those ahead -/
def sm : Int → List Int → List Int
  | _, [] => []
  | a, x :: t => wrap64 (a + x) :: sm (wrap64 (a + x)) t
/-- the first s as they are, f of the others -/
def bh (f : List Int → List Int) (s : Nat) (l : List Int) : List Int := l.take s ++ f (l.drop s)
def D : Nat → List Int → List Int
  | 0, l => l
  | k + 1, l => bh (dif 0) k (D k l)
def S : Nat → List Int → List Int
  | 0, l => l
  | k + 1, l => S k (bh (sm 0) k l)

theorem dif_length (a : Int) (l : List Int) : (dif a l).length = l.length := by
  induction l generalizing a with
  | nil => rfl
  | cons x t ih => simp [dif, ih]
theorem sm_length (a : Int) (l : List Int) : (sm a l).length = l.length := by
  induction l generalizing a with
  | nil => rfl
  | cons x t ih => simp [sm, ih]
theorem dif_g (a : Int) (l : List Int) : ∀ x ∈ dif a l, G64 x := by
  induction l generalizing a with
  | nil => intro x hx; simp [dif] at hx
  | cons y t ih =>
    intro x hx
    simp only [dif, List.mem_cons] at hx
    rcases hx with rfl | hx
    · exact w64_g _
    · exact ih _ x hx
theorem sm_g (a : Int) (l : List Int) : ∀ x ∈ sm a l, G64 x := by
  induction l generalizing a with
  | nil => intro x hx; simp [sm] at hx
  | cons y t ih =>
    intro x hx
    simp only [sm, List.mem_cons] at hx
    rcases hx with rfl | hx
    · exact w64_g _
    · exact ih _ x hx
theorem sm_dif (a : Int) (l : List Int) (h : ∀ x ∈ l, G64 x) : sm a (dif a l) = l := by
  induction l generalizing a with
  | nil => rfl
  | cons x t ih =>
    simp only [dif, sm, w64_back (h x (by simp))]
    rw [ih x (fun y hy => h y (by simp [hy]))]
theorem dif_sm (a : Int) (l : List Int) (h : ∀ x ∈ l, G64 x) : dif a (sm a l) = l := by
  induction l generalizing a with
  | nil => rfl
  | cons x t ih =>
    simp only [dif, sm, w64_forth (h x (by simp))]
    rw [ih _ (fun y hy => h y (by simp [hy]))]
theorem bh_length {f : List Int → List Int} (hf : ∀ l, (f l).length = l.length) (s : Nat) (l : List Int) : (bh f s l).length = l.length := by
  simp only [bh, List.length_append, List.length_take, hf, List.length_drop]; omega
theorem bh_g {f : List Int → List Int} (hf : ∀ l, ∀ x ∈ f l, G64 x) (s : Nat) (l : List Int) (h : ∀ x ∈ l, G64 x) : ∀ x ∈ bh f s l, G64 x := by
  intro x hx
  simp only [bh, List.mem_append] at hx
  rcases hx with hx | hx
  · exact h x (List.mem_of_mem_take hx)
  · exact hf _ x hx
theorem bh_bh {f g : List Int → List Int} (hf : ∀ l, (f l).length = l.length) (s : Nat) (l : List Int) (hg : g (f (l.drop s)) = l.drop s) : bh g s (bh f s l) = l := by
  unfold bh
  by_cases h : s ≤ l.length
  · have e : (l.take s).length = s := by rw [List.length_take]; omega
    rw [List.take_append_of_le_length (by omega), List.take_take, Nat.min_self, List.drop_append_of_le_length (by omega), List.drop_of_length_le (by omega), List.nil_append, hg, List.take_append_drop]
  · have e : l.drop s = [] := List.drop_of_length_le (by omega)
    have e0 : f [] = [] := List.eq_nil_of_length_eq_zero (by rw [hf]; rfl)
    have e1 : l.take s = l := List.take_of_length_le (by omega)
    rw [e, e0] at hg
    rw [e, e0, e1, List.append_nil, e, e1, hg, List.append_nil]
theorem bh_take {f : List Int → List Int} (hf : ∀ l, (f l).length = l.length) (ht : ∀ l n, (f l).take n = f (l.take n)) (s : Nat) (l : List Int) (c : Nat) : (bh f s l).take c = bh f s (l.take c) := by
  unfold bh
  have e0 : f [] = [] := List.eq_nil_of_length_eq_zero (by rw [hf]; rfl)
  rw [List.take_append, List.take_take, List.take_take, Nat.min_comm, ht, List.length_take, List.drop_take]
  congr 2
  by_cases h : s ≤ l.length
  · rw [Nat.min_eq_left h]
  · rw [List.drop_of_length_le (by omega)]; simp
theorem dif_take (a : Int) (l : List Int) (n : Nat) : (dif a l).take n = dif a (l.take n) := by
  induction l generalizing a n with
  | nil => simp [dif]
  | cons x t ih =>
    cases n with
    | zero => rfl
    | succ n => simp only [dif, List.take_succ_cons, ih]
theorem sm_take (a : Int) (l : List Int) (n : Nat) : (sm a l).take n = sm a (l.take n) := by
  induction l generalizing a n with
  | nil => simp [sm]
  | cons x t ih =>
    cases n with
    | zero => rfl
    | succ n => simp only [sm, List.take_succ_cons, ih]

theorem D_length (k : Nat) (l : List Int) : (D k l).length = l.length := by
  induction k with
  | zero => rfl
  | succ k ih => rw [D, bh_length (dif_length 0), ih]
theorem S_length (k : Nat) (l : List Int) : (S k l).length = l.length := by
  induction k generalizing l with
  | zero => rfl
  | succ k ih => rw [S, ih, bh_length (sm_length 0)]
theorem D_g (k : Nat) (l : List Int) (h : ∀ x ∈ l, G64 x) : ∀ x ∈ D k l, G64 x := by
  induction k with
  | zero => exact h
  | succ k ih => exact bh_g (dif_g 0) k _ ih
theorem S_g (k : Nat) (l : List Int) (h : ∀ x ∈ l, G64 x) : ∀ x ∈ S k l, G64 x := by
  induction k generalizing l with
  | zero => exact h
  | succ k ih => exact ih _ (bh_g (sm_g 0) k _ h)
/-- THERE AND BACK -/
theorem S_D (k : Nat) (l : List Int) (h : ∀ x ∈ l, G64 x) : S k (D k l) = l := by
  induction k with
  | zero => rfl
  | succ k ih =>
    rw [S, D, bh_bh (dif_length 0) k _ (sm_dif 0 _ (fun x hx => D_g k l h x (List.mem_of_mem_drop hx))), ih]
/-- BACK AND THERE -/
theorem D_S (k : Nat) (l : List Int) (h : ∀ x ∈ l, G64 x) : D k (S k l) = l := by
  induction k generalizing l with
  | zero => rfl
  | succ k ih =>
    rw [S, D, ih _ (bh_g (sm_g 0) k _ h), bh_bh (sm_length 0) k _ (dif_sm 0 _ (fun x hx => h x (List.mem_of_mem_drop hx)))]
/-- A LIST THAT IS CUT OFF -/
theorem D_take (k : Nat) (l : List Int) (c : Nat) : (D k l).take c = D k (l.take c) := by
  induction k with
  | zero => rfl
  | succ k ih => rw [D, D, bh_take (dif_length 0) (dif_take 0), ih]
theorem S_take (k : Nat) (l : List Int) (c : Nat) : (S k l).take c = S k (l.take c) := by
  induction k generalizing l with
  | zero => rfl
  | succ k ih => rw [S, S, ih, bh_take (sm_length 0) (sm_take 0)]
theorem bh_one {f : List Int → List Int} (hf : ∀ l, (f l).length = l.length) (x : Int) (h : f [x] = [x]) (s : Nat) : bh f s [x] = [x] := by
  have e0 : f [] = [] := List.eq_nil_of_length_eq_zero (by rw [hf]; rfl)
  cases s with
  | zero => simp [bh, h]
  | succ s => simp [bh, e0]
theorem D_one (k : Nat) (x : Int) (h : G64 x) : D k [x] = [x] := by
  induction k with
  | zero => rfl
  | succ k ih => rw [D, ih]; exact bh_one (dif_length 0) x (by simp [dif, w64_id h]) k
theorem S_one (k : Nat) (x : Int) (h : G64 x) : S k [x] = [x] := by
  induction k with
  | zero => rfl
  | succ k ih => rw [S, bh_one (sm_length 0) x (by simp [sm, w64_id h]) k, ih]
theorem head_of_take {l m : List Int} (h : m.take 1 = l.take 1) : m.getD 0 0 = l.getD 0 0 := by
  cases l <;> cases m <;> simp_all
/-- THE FIRST ONE STAYS -/
theorem D_first (k : Nat) (l : List Int) (h : ∀ x ∈ l, G64 x) : (D k l).getD 0 0 = l.getD 0 0 := by
  refine head_of_take ?_
  rw [D_take]
  cases l with
  | nil => exact List.eq_nil_of_length_eq_zero (by rw [D_length]; rfl)
  | cons x t => exact D_one k x (h x (by simp))
theorem S_first (k : Nat) (l : List Int) (h : ∀ x ∈ l, G64 x) : (S k l).getD 0 0 = l.getD 0 0 := by
  refine head_of_take ?_
  rw [S_take]
  cases l with
  | nil => exact List.eq_nil_of_length_eq_zero (by rw [S_length]; rfl)
  | cons x t => exact S_one k x (h x (by simp))
theorem dif_at (a : Int) (l : List Int) (i : Nat) (hi : i + 1 < l.length) : (dif a l).getD (i + 1) 0 = wrap64 (l.getD (i + 1) 0 - l.getD i 0) := by
  induction l generalizing a i with
  | nil => simp at hi
  | cons x t ih =>
    cases t with
    | nil => simp at hi
    | cons y t =>
      cases i with
      | zero => simp [dif]
      | succ i =>
        have := ih x i (by simpa using hi)
        simp only [dif, List.getD_cons_succ] at this ⊢
        exact this
theorem dif_zero (l : List Int) (h : ∀ x ∈ l, G64 x) : (dif 0 l).getD 0 0 = l.getD 0 0 := by
  cases l with
  | nil => rfl
  | cons x t => simp [dif, w64_id (h x (by simp))]

/-- numbers that lie equally far apart -/
def ap (s : Int) : Int → Nat → List Int
  | _, 0 => []
  | x, n + 1 => x :: ap s (wrap64 (x + s)) n
theorem ap_length (s x : Int) (n : Nat) : (ap s x n).length = n := by
  induction n generalizing x with
  | zero => rfl
  | succ n ih => simp [ap, ih]
theorem ap_g (s x : Int) (n : Nat) (h : G64 x) : ∀ y ∈ ap s x n, G64 y := by
  induction n generalizing x with
  | zero => intro y hy; simp [ap] at hy
  | succ n ih =>
    intro y hy
    simp only [ap, List.mem_cons] at hy
    rcases hy with rfl | hy
    · exact h
    · exact ih _ (w64_g _) y hy
theorem dif_ap (s x : Int) (n : Nat) (hs : G64 s) : dif x (ap s (wrap64 (x + s)) n) = List.replicate n s := by
  induction n generalizing x with
  | zero => rfl
  | succ n ih => simp only [ap, dif, w64_step x s hs, List.replicate_succ, ih]
theorem dif_rep (s : Int) (n : Nat) : dif s (List.replicate n s) = List.replicate n 0 := by
  induction n with
  | zero => rfl
  | succ n ih =>
    have e : wrap64 (s - s) = 0 := by unfold wrap64; omega
    simp only [List.replicate_succ, dif, ih, e]
theorem D2_ap (s x : Int) (n : Nat) (hs : G64 s) (hx : G64 x) : D 2 (ap s x (n + 2)) = x :: s :: List.replicate n 0 := by
  have h1 : D 1 (ap s x (n + 2)) = x :: List.replicate (n + 1) s := by
    show bh (dif 0) 0 (ap s x (n + 2)) = _
    rw [ap]
    simp only [bh, List.take_zero, List.drop_zero, List.nil_append, dif]
    rw [dif_ap s x (n + 1) hs, Int.sub_zero, w64_id hx]
  show bh (dif 0) 1 (D 1 (ap s x (n + 2))) = _
  rw [h1]
  simp only [bh, List.take_succ_cons, List.take_zero, List.drop_succ_cons, List.drop_zero, List.replicate_succ, dif, dif_rep, Int.sub_zero, w64_id hs, List.cons_append, List.nil_append]
theorem D3_ap (s x : Int) (n : Nat) (hs : G64 s) (hx : G64 x) : D 3 (ap s x (n + 2)) = x :: s :: List.replicate n 0 := by
  show bh (dif 0) 2 (D 2 (ap s x (n + 2))) = _
  rw [D2_ap s x n hs hx]
  simp only [bh, List.take_succ_cons, List.take_zero, List.drop_succ_cons, List.drop_zero, dif_rep, List.cons_append, List.nil_append]
theorem even_at (s x : Int) (n i : Nat) (hs : G64 s) (hx : G64 x) (hi : 2 ≤ i) (hn : i < n) : (D 2 (ap s x n)).getD i 0 = 0 ∧ (D 3 (ap s x n)).getD i 0 = 0 := by
  obtain ⟨m, rfl⟩ : ∃ m, n = m + 2 := ⟨n - 2, by omega⟩
  obtain ⟨j, rfl⟩ : ∃ j, i = j + 2 := ⟨i - 2, by omega⟩
  rw [D2_ap s x m hs hx, D3_ap s x m hs hx]
  have e : (x :: s :: List.replicate m 0).getD (j + 2) 0 = 0 := by
    rw [List.getD_cons_succ, List.getD_cons_succ, List.getD_eq_getElem?_getD, List.getElem?_replicate]
    split <;> rfl
  exact ⟨e, e⟩
end Go.Proofs.YthapipgaohlgdabGreatDoor

/- The two kinds of numbers' zeros and sizes. -/
namespace Go.Proofs.YthapipgaohlgdabGreatDoor
open Go.RowKit
theorem Tryz.infoI64 : (Tryz.prog.info? 3).map (fun i => (i.zero, i.size, i.bytes)) = some (some (.int .i64 0), 1, 8) := by kernel_rfl
theorem Tryz.infoU64 : (Tryz.prog.info? 26).map (fun i => (i.zero, i.size, i.bytes)) = some (some (.int .u64 0), 1, 8) := by kernel_rfl
end Go.Proofs.YthapipgaohlgdabGreatDoor
