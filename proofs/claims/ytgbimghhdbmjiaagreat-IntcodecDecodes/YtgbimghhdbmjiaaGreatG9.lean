/- Several texts in one: Tot6, Rm, Ren, Rde. -/
import Derived.Test.YtgbimghhdbmjiaaGreatG8
import Derived.Test.YtgbimghhdbmjiaaGreatG4
import Derived.Deep.LoopGhost
import Derived.WalkMore
import Derived.Test.YtgbimghhdbmjiaaGreatG1

/- Package simple and its reference, whatever comes in; and the head of each statement: the document's example holds. -/
namespace Go.Proofs.YtgbimghhdbmjiaaGreat
open Go.RowKit

/-- what any numbers are encoded to, and the error -/
def ENC (xs : List Int) : List Int × Int := if 65536 < xs.length then ([], 4) else if small 60 xs = true then (enc xs, 0) else ([], 1)
/-- what any bytes are decoded to, and the error -/
def DEC (ys : List Int) (n : Int) : List Int × Int := if n < 0 ∨ 65536 < n then ([], 1) else dec ys n.toNat
/-- a sort's room -/
def ROOM (s : Int) : Int × Int := if s < 0 ∨ 15 < s then (0, 0) else ((cn s.toNat : Int), (wi s.toNat : Int))

theorem encode_all (v : Value) (xs : List Int) (w : World) (h : Bs .u64 w v xs) (hu : U64 xs) :
    Calls Tryz.prog 72 #[v] w fun e w' => ∃ v', e = .returned (.tuple #[v', .int .i64 (ENC xs).2]) ∧ w'.ownsRow w.heap.size 5 1 v' (ENC xs).1.length ((ENC xs).1.map (Value.int .u8)) ∧ Only (fun _ => False) w w' := by
  unfold ENC
  by_cases hl : 65536 < xs.length
  · rw [if_pos hl]
    refine (encode_long v xs w h hl).mono ?_
    rintro e w' ⟨rfl, rfl⟩
    exact ⟨_, rfl, World.ownsRow_nil _ _ _ _, Only.refl _ _⟩
  · rw [if_neg hl]
    by_cases hs : small 60 xs = true
    · rw [if_pos hs]
      exact encode_bs v xs w h (small_up hs (fun x hx => (hu x hx).1)) (by omega)
    · rw [if_neg hs]
      refine (encode_arg v xs w h hu (by omega) (by simpa using hs)).mono ?_
      rintro e w' ⟨rfl, rfl⟩
      exact ⟨_, rfl, World.ownsRow_nil _ _ _ _, Only.refl _ _⟩
theorem decode_all (v : Value) (ys : List Int) (n : Int) (w : World) (h : Bs .u8 w v ys) (hr : ∀ y ∈ ys, 0 ≤ y ∧ y ≤ 255) (hl : ys.length ≤ 1000000000000) :
    Calls Tryz.prog 48 #[v, .int .i64 n] w fun e w' => ∃ u, e = .returned (.tuple #[u, .int .i64 (DEC ys n).2]) ∧ w'.ownsRow w.heap.size 42 1 u (DEC ys n).1.length ((DEC ys n).1.map (Value.int .u64)) ∧ Only (fun _ => False) w w' := by
  unfold DEC
  by_cases hn : n < 0 ∨ 65536 < n
  · rw [if_pos hn]
    refine (decode_arg v n w hn).mono ?_
    rintro e w' ⟨rfl, rfl⟩
    exact ⟨_, rfl, World.ownsRow_nil _ _ _ _, Only.refl _ _⟩
  · rw [if_neg hn]
    obtain ⟨m, rfl⟩ := Int.eq_ofNat_of_zero_le (show 0 ≤ n by omega)
    exact decode_bs v ys m w h hr hl (by omega)
theorem room_all (s : Int) (w : World) : Calls Tryz.prog 98 #[.int .i64 s] w fun e w' => e = .returned (.tuple #[.int .i64 (ROOM s).1, .int .i64 (ROOM s).2]) ∧ Only (fun _ => False) w w' := by
  unfold ROOM
  by_cases hs : s < 0 ∨ 15 < s
  · rw [if_pos hs]
    refine (room_no s w hs).mono ?_
    rintro e w' ⟨rfl, rfl⟩
    exact ⟨rfl, Only.refl _ _⟩
  · rw [if_neg hs]
    obtain ⟨m, rfl⟩ := Int.eq_ofNat_of_zero_le (show 0 ≤ s by omega)
    exact room_at m w (by omega)
theorem ENC_ok {xs : List Int} (h0 : ∀ x ∈ xs, 0 ≤ x) (h : (ENC xs).2 = 0) : ENC xs = (enc xs, 0) ∧ Up 60 xs ∧ xs.length ≤ 65536 := by
  unfold ENC at *
  by_cases hl : 65536 < xs.length
  · rw [if_pos hl] at h; cases h
  · rw [if_neg hl] at h ⊢
    by_cases hs : small 60 xs = true
    · rw [if_pos hs]; exact ⟨rfl, small_up hs h0, by omega⟩
    · rw [if_neg hs] at h; cases h
theorem ENC_of {xs : List Int} (hu : Up 60 xs) (hl : xs.length ≤ 65536) : ENC xs = (enc xs, 0) := by
  unfold ENC
  rw [if_neg (by omega), if_pos (up_small hu)]
theorem ENC_no {xs : List Int} (hl : xs.length ≤ 65536) (h : (ENC xs).2 ≠ 0) : ENC xs = ([], 1) := by
  unfold ENC at *
  rw [if_neg (by omega)] at h ⊢
  by_cases hs : small 60 xs = true
  · rw [if_pos hs] at h; exact absurd rfl h
  · rw [if_neg hs]
theorem ENC_len {xs : List Int} (h0 : ∀ x ∈ xs, 0 ≤ x) : (ENC xs).1.length ≤ 600000 := by
  by_cases h : (ENC xs).2 = 0
  · obtain ⟨e, hu, hl⟩ := ENC_ok h0 h
    rw [e]
    have := (enc_len xs.length xs rfl hu).2.1
    simp only; omega
  · unfold ENC at *
    by_cases hl : 65536 < xs.length
    · rw [if_pos hl]; decide
    · rw [if_neg hl] at h ⊢
      by_cases hs : small 60 xs = true
      · rw [if_pos hs] at h; exact absurd rfl h
      · rw [if_neg hs]; decide
theorem DEC_facts {ys : List Int} {n : Int} (hr : ∀ y ∈ ys, 0 ≤ y ∧ y ≤ 255) :
    (∃ c, DEC ys n = ([], c) ∧ c ≠ 0) ∨ (∃ l, DEC ys n = (l, 0) ∧ Up 60 l ∧ (l.length : Int) = n ∧ l.length ≤ 65536 ∧ enc l = ys) := by
  unfold DEC
  by_cases hn : n < 0 ∨ 65536 < n
  · rw [if_pos hn]; exact .inl ⟨1, rfl, by decide⟩
  · rw [if_neg hn]
    rcases dec_only (n := n.toNat) hr with ⟨c, h1, h2⟩ | ⟨l, h1, h2, h3, h4⟩
    · exact .inl ⟨c, h1, by omega⟩
    · exact .inr ⟨l, h1, h2, by omega, by omega, h4⟩
theorem DEC_nat (ys : List Int) (n : Nat) (h : n ≤ 65536) : DEC ys n = dec ys n := by
  unfold DEC
  rw [if_neg (by omega)]
  rfl

theorem enc_ex : enc [1, 2, 3] = [208, 0, 1, 0, 0, 32, 0, 3] := by decide +kernel
theorem up_ex : Up 60 [1, 2, 3] := by
  intro x hx; simp at hx; omega
theorem ENC_ex : ENC [1, 2, 3] = ([208, 0, 1, 0, 0, 32, 0, 3], 0) := by rw [ENC_of up_ex (by decide), enc_ex]
theorem DEC_ex : DEC [208, 0, 1, 0, 0, 32, 0, 3] 3 = ([1, 2, 3], 0) := by
  have := dec_enc up_ex
  rw [enc_ex] at this
  exact this

end Go.Proofs.YtgbimghhdbmjiaaGreat

/- Numbers as runs, and runs as numbers: plain facts, no program is named here. -/
namespace Go.Proofs.YtgbimghhdbmjiaaGreat

/-- a run of v that has k + 1 so far, and what stands behind it -/
def runR : Int → Nat → List Int → List Int
  | v, k, [] => gs v.toNat ++ gs k
  | v, k, x :: t => if x = v then runR v (k + 1) t else gs v.toNat ++ gs k ++ runR x 0 t
/-- numbers as runs -/
def runE : List Int → List Int
  | [] => []
  | x :: t => runR x 0 t
/-- t does not open with v -/
def Apart1 (v : Int) (t : List Int) : Prop := ∀ x r, t = x :: r → x ≠ v
theorem apart_nil (v : Int) : Apart1 v [] := fun x r h => by cases h

theorem runR_rep (v : Int) (i : Nat) : ∀ (k : Nat) (r : List Int), runR v k (List.replicate i v ++ r) = runR v (k + i) r := by
  induction i with
  | zero => intro k r; rfl
  | succ i ih =>
    intro k r
    rw [List.replicate_succ, List.cons_append, runR, if_pos rfl, ih, Nat.add_assoc, Nat.add_comm 1 i]
theorem runR_end {v : Int} {t : List Int} (h : Apart1 v t) (k : Nat) : runR v k t = gs v.toNat ++ gs k ++ runE t := by
  cases t with
  | nil => simp [runR, runE]
  | cons x r => rw [runR, if_neg (h x r rfl), runE]
theorem runE_first {v : Int} {t : List Int} (h : Apart1 v t) (m : Nat) : runE (List.replicate (m + 1) v ++ t) = gs v.toNat ++ gs m ++ runE t := by
  rw [List.replicate_succ, List.cons_append, runE, runR_rep, Nat.zero_add, runR_end h]
theorem run_split : ∀ (l : List Int), l ≠ [] → ∃ v m t, l = List.replicate (m + 1) v ++ t ∧ Apart1 v t
  | [], h => absurd rfl h
  | [x], _ => ⟨x, 0, [], rfl, apart_nil x⟩
  | x :: y :: t, _ => by
    obtain ⟨v, m, t', e, ha⟩ := run_split (y :: t) (by simp)
    by_cases h : x = v
    · exact ⟨v, m + 1, t', by rw [h, e, List.replicate_succ (n := m + 1)]; rfl, ha⟩
    · refine ⟨x, 0, y :: t, rfl, fun a r e2 => ?_⟩
      have : y = v := by
        rw [List.replicate_succ] at e
        simp at e
        exact e.1
      simp at e2
      rw [← e2.1, this]
      exact fun h2 => h h2.symm
/-- run by run -/
theorem run_ind {P : List Int → Prop} (h0 : P []) (h1 : ∀ v m t, Apart1 v t → P t → P (List.replicate (m + 1) v ++ t)) (l : List Int) : P l := by
  induction hn : l.length using Nat.strongRecOn generalizing l with
  | _ n ih =>
    by_cases hl : l = []
    · subst hl; exact h0
    · obtain ⟨v, m, t, rfl, ha⟩ := run_split l hl
      refine h1 v m t ha (ih t.length ?_ t rfl)
      rw [← hn, List.length_append, List.length_replicate]
      omega
theorem U64.tail {v : Int} {m : Nat} {t : List Int} (h : U64 (List.replicate (m + 1) v ++ t)) : U64 t := fun x hx => h x (by simp [hx])
theorem U64.head {v : Int} {m : Nat} {t : List Int} (h : U64 (List.replicate (m + 1) v ++ t)) : 0 ≤ v ∧ v ≤ 18446744073709551615 := h v (by simp)
theorem runE_range (l : List Int) : ∀ y ∈ runE l, 0 ≤ y ∧ y ≤ 255 := by
  induction l using run_ind with
  | h0 => intro y hy; cases hy
  | h1 v m t ha ih =>
    rw [runE_first ha]
    intro y hy
    rcases List.mem_append.1 hy with hy | hy
    · rcases List.mem_append.1 hy with hy | hy
      · exact gs_range _ y hy
      · exact gs_range _ y hy
    · exact ih y hy
theorem runE_len (l : List Int) : U64 l → l.length < 18446744073709551616 → (runE l).length ≤ 20 * l.length := by
  induction l using run_ind with
  | h0 => intro _ _; simp [runE]
  | h1 v m t ha ih =>
    intro hu hl
    rw [List.length_append, List.length_replicate] at hl
    have hv := hu.head
    have h1 := gs_le10 (v := v.toNat) (by omega)
    have h2 := gs_le10 (v := m) (by omega)
    have h3 := ih hu.tail (by omega)
    rw [runE_first ha, List.length_append, List.length_append, List.length_append, List.length_replicate]
    omega
theorem Apart1.app {v : Int} {t b : List Int} (h : Apart1 v t) (ht : t ≠ []) : Apart1 v (t ++ b) := by
  intro x r e
  cases t with
  | nil => exact absurd rfl ht
  | cons y s =>
    simp at e
    exact h x s (by rw [e.1])
/-- TWO LISTS, one behind the other -/
theorem runE_app {b : List Int} (hb : b ≠ []) (a : List Int) : a ≠ [] → a.getD (a.length - 1) 0 ≠ b.getD 0 0 → runE (a ++ b) = runE a ++ runE b := by
  induction a using run_ind with
  | h0 => intro h; exact absurd rfl h
  | h1 v m t ha ih =>
    intro _ hne
    by_cases ht : t = []
    · subst ht
      have hv : Apart1 v b := by
        intro x r e
        subst e
        intro h
        subst h
        apply hne
        simp [List.getD_eq_getElem?_getD]
      rw [List.append_nil, runE_first hv]
      have := runE_first (apart_nil v) m
      rw [List.append_nil] at this
      rw [this]
      simp [runE]
    · rw [List.append_assoc, runE_first (ha.app ht), runE_first ha, ih ht ?_, List.append_assoc, List.append_assoc, List.append_assoc]
      have hl : 0 < t.length := by cases t with
        | nil => exact absurd rfl ht
        | cons _ _ => simp
      have e : (List.replicate (m + 1) v ++ t).getD ((List.replicate (m + 1) v ++ t).length - 1) 0 = t.getD (t.length - 1) 0 := by
        rw [List.getD_eq_getElem?_getD, List.getD_eq_getElem?_getD, List.length_append, List.length_replicate, List.getElem?_append_right (by rw [List.length_replicate]; omega), List.length_replicate]
        congr 2
        omega
      rw [← e]; exact hne
/-- as many of one number -/
theorem runE_rep (v : Int) (m : Nat) : runE (List.replicate (m + 1) v) = gs v.toNat ++ gs m := by
  have := runE_first (apart_nil v) m
  rw [List.append_nil] at this
  rw [this]
  simp [runE]
/-- the first run ends where a number is another one -/
theorem runE_step {l : List Int} {i : Nat} (h0 : 0 < i) (hi : i < l.length) (hs : ∀ j, j < i → l.getD j 0 = l.getD 0 0) (hd : l.getD i 0 ≠ l.getD 0 0) : runE l = gs (l.getD 0 0).toNat ++ gs (i - 1) ++ runE (l.drop i) := by
  have e : l = List.replicate (i - 1 + 1) (l.getD 0 0) ++ l.drop i := by
    have ht : l.take i = List.replicate (i - 1 + 1) (l.getD 0 0) := by
      apply List.ext_getElem
      · rw [List.length_take, List.length_replicate]; omega
      · intro j h1 h2
        rw [List.length_take] at h1
        have := hs j (by omega)
        rw [List.getElem_take, List.getElem_replicate, ← this, List.getD_eq_getElem?_getD, List.getElem?_eq_getElem (by omega)]
        rfl
    rw [← ht, List.take_append_drop]
  have ha : Apart1 (l.getD 0 0) (l.drop i) := by
    intro x r e2
    have := List.drop_eq_getElem_cons hi
    rw [this] at e2
    injection e2 with e3 _
    rw [← e3]
    rw [List.getD_eq_getElem?_getD, List.getElem?_eq_getElem hi] at hd
    exact hd
  have key := runE_first ha (i - 1)
  rw [← e] at key
  exact key
theorem runE_all {l : List Int} (h0 : 0 < l.length) (hs : ∀ j, j < l.length → l.getD j 0 = l.getD 0 0) : runE l = gs (l.getD 0 0).toNat ++ gs (l.length - 1) := by
  have e : l = List.replicate (l.length - 1 + 1) (l.getD 0 0) := by
    apply List.ext_getElem
    · rw [List.length_replicate]; omega
    · intro j h1 h2
      have := hs j h1
      rw [List.getElem_replicate, ← this, List.getD_eq_getElem?_getD, List.getElem?_eq_getElem h1]
      rfl
  have key := runE_rep (l.getD 0 0) (l.length - 1)
  rw [← e] at key
  exact key

/-! what a varint tells -/
theorem sVarint_cases {ys : List Int} (hr : ∀ y ∈ ys, 0 ≤ y ∧ y ≤ 255) : (∃ c, sVarint ys = (0, 0, c) ∧ (c = 2 ∨ c = 3)) ∨ (∃ a k : Nat, sVarint ys = ((a : Int), k, 0) ∧ 1 ≤ k ∧ k ≤ ys.length ∧ a < 18446744073709551616 ∧ ys = gs a ++ ys.drop k) := by
  rcases rd_cases ys hr with ⟨c, h, hc⟩ | ⟨a, k, h, h1, h2, _, h4, h5⟩
  · exact .inl ⟨c, by rw [sVarint, h]; rfl, hc⟩
  · exact .inr ⟨a, k, by rw [sVarint, h]; rfl, h1, h2, h4, by rw [h5, List.take_append_drop]⟩
theorem sVarint_short (v k : Nat) (h : v < 18446744073709551616) (hk : k < (gs v).length) : sVarint ((gs v).take k) = (0, 0, 2) := by
  have := rd_short v 0 k 0 (by omega) (by simpa using h) hk
  rw [sVarint, this]
  rfl

/-! the other way round -/
/-- is v the number that acc ends with? -/
def runOn (acc : List Int) (v : Int) : Bool := decide (0 < acc.length) && (acc.getD (acc.length - 1) 0 == v)
/-- acc is had; what the bytes ys add to it, until there are n -/
def runD : Nat → List Int → List Int → Nat → List Int × Int
  | 0, _, _, _ => ([], 3)
  | f + 1, acc, ys, n =>
    if acc.length < n then
      if (sVarint ys).2.2 ≠ 0 then ([], (sVarint ys).2.2)
      else if (sVarint (ys.drop (sVarint ys).2.1)).2.2 ≠ 0 then ([], (sVarint (ys.drop (sVarint ys).2.1)).2.2)
      else if n - acc.length ≤ (sVarint (ys.drop (sVarint ys).2.1)).1.toNat ∨ runOn acc (sVarint ys).1 = true then ([], 3)
      else runD f (acc ++ List.replicate ((sVarint (ys.drop (sVarint ys).2.1)).1.toNat + 1) (sVarint ys).1) ((ys.drop (sVarint ys).2.1).drop (sVarint (ys.drop (sVarint ys).2.1)).2.1) n
    else if 0 < ys.length then ([], 3) else (acc, 0)
def runDec (ys : List Int) (n : Nat) : List Int × Int := runD (n + 1) [] ys n

theorem runD_done {f : Nat} {acc ys : List Int} {n : Nat} (h : ¬ acc.length < n) (hf : 0 < f) : runD f acc ys n = if 0 < ys.length then ([], 3) else (acc, 0) := by
  obtain ⟨g, rfl⟩ : ∃ g, f = g + 1 := ⟨f - 1, by omega⟩
  rw [runD, if_neg h]
theorem runD_err1 {f : Nat} {acc ys : List Int} {n : Nat} {a : Int} {k : Nat} {c : Int} (h : acc.length < n) (hf : 0 < f) (hs : sVarint ys = (a, k, c)) (hc : c ≠ 0) : runD f acc ys n = ([], c) := by
  obtain ⟨g, rfl⟩ : ∃ g, f = g + 1 := ⟨f - 1, by omega⟩
  rw [runD, if_pos h, hs, if_pos hc]
theorem runD_err2 {f : Nat} {acc ys : List Int} {n : Nat} {a b : Int} {k j : Nat} {c : Int} (h : acc.length < n) (hf : 0 < f) (hs : sVarint ys = (a, k, 0)) (hs2 : sVarint (ys.drop k) = (b, j, c)) (hc : c ≠ 0) : runD f acc ys n = ([], c) := by
  obtain ⟨g, rfl⟩ : ∃ g, f = g + 1 := ⟨f - 1, by omega⟩
  rw [runD, if_pos h, hs]
  simp only
  rw [hs2, if_neg (by simp), if_pos hc]
theorem runD_err3 {f : Nat} {acc ys : List Int} {n : Nat} {a : Int} {m k j : Nat} (h : acc.length < n) (hf : 0 < f) (hs : sVarint ys = (a, k, 0)) (hs2 : sVarint (ys.drop k) = ((m : Int), j, 0)) (hm : n - acc.length ≤ m ∨ runOn acc a = true) : runD f acc ys n = ([], 3) := by
  obtain ⟨g, rfl⟩ : ∃ g, f = g + 1 := ⟨f - 1, by omega⟩
  rw [runD, if_pos h, hs]
  simp only
  rw [hs2, if_neg (by simp)]
  simp only
  rw [if_neg (by simp), if_pos (by simpa using hm)]
theorem runD_next {f : Nat} {acc ys : List Int} {n : Nat} {a : Int} {m k j : Nat} (h : acc.length < n) (hf : 0 < f) (hs : sVarint ys = (a, k, 0)) (hs2 : sVarint (ys.drop k) = ((m : Int), j, 0)) (hm : m < n - acc.length) (ho : runOn acc a = false) :
    runD f acc ys n = runD (f - 1) (acc ++ List.replicate (m + 1) a) ((ys.drop k).drop j) n := by
  obtain ⟨g, rfl⟩ : ∃ g, f = g + 1 := ⟨f - 1, by omega⟩
  rw [runD, if_pos h, hs]
  simp only
  rw [hs2, if_neg (by simp)]
  simp only
  rw [if_neg (by simp), if_neg (by rw [ho]; simp; omega)]
  simp
/-- t may stand behind acc: it opens with another number than acc ends with -/
def Joins (acc t : List Int) : Prop := ∀ x r, t = x :: r → runOn acc x = false
theorem runOn_rep (acc : List Int) (v x : Int) (m : Nat) : runOn (acc ++ List.replicate (m + 1) v) x = (v == x) := by
  unfold runOn
  rw [List.length_append, List.length_replicate, decide_eq_true (by omega), Bool.true_and, List.getD_eq_getElem?_getD, List.getElem?_append_right (by omega)]
  rw [List.getElem?_replicate, if_pos (by omega)]
  rfl
theorem joins_rep {acc : List Int} {v : Int} {m : Nat} {t : List Int} : Joins (acc ++ List.replicate (m + 1) v) t ↔ Apart1 v t := by
  constructor
  · intro h x r e
    have := h x r e
    rw [runOn_rep] at this
    simp at this
    exact fun e2 => this e2.symm
  · intro h x r e
    rw [runOn_rep]
    have := h x r e
    simp
    exact fun e2 => this e2.symm
theorem joins_nil (t : List Int) : Joins [] t := fun _ _ _ => rfl

/-- WHAT IS DECODED WAS ENCODED. -/
theorem runD_only (f : Nat) : ∀ (acc ys : List Int) (n : Nat), (∀ y ∈ ys, 0 ≤ y ∧ y ≤ 255) → n - acc.length < f → acc.length ≤ n →
    (∃ c, runD f acc ys n = ([], c) ∧ (c = 2 ∨ c = 3)) ∨ (∃ t, runD f acc ys n = (acc ++ t, 0) ∧ acc.length + t.length = n ∧ ys = runE t ∧ U64 t ∧ Joins acc t) := by
  induction f with
  | zero => intro acc ys n _ h; omega
  | succ f ih =>
    intro acc ys n hr hf hn
    by_cases h : acc.length < n
    · rcases sVarint_cases hr with ⟨c, hs, hc⟩ | ⟨a, k, hs, k1, k2, ha, e1⟩
      · exact .inl ⟨c, runD_err1 h (by omega) hs (by omega), hc⟩
      · have hr2 : ∀ y ∈ ys.drop k, 0 ≤ y ∧ y ≤ 255 := fun y hy => hr y (List.mem_of_mem_drop hy)
        rcases sVarint_cases hr2 with ⟨c, hs2, hc⟩ | ⟨m, j, hs2, j1, j2, hm, e2⟩
        · exact .inl ⟨c, runD_err2 h (by omega) hs hs2 (by omega), hc⟩
        · by_cases hb : n - acc.length ≤ m ∨ runOn acc (a : Int) = true
          · exact .inl ⟨3, runD_err3 h (by omega) hs hs2 hb, .inr rfl⟩
          · have ho : runOn acc (a : Int) = false := by
              cases h3 : runOn acc (a : Int) with
              | false => rfl
              | true => exact absurd (.inr h3) hb
            rw [runD_next h (by omega) hs hs2 (by omega) ho]
            have hl : (acc ++ List.replicate (m + 1) (a : Int)).length = acc.length + (m + 1) := by rw [List.length_append, List.length_replicate]
            rcases ih (acc ++ List.replicate (m + 1) (a : Int)) ((ys.drop k).drop j) n (fun y hy => hr2 y (List.mem_of_mem_drop hy)) (by rw [hl]; omega) (by rw [hl]; omega) with ⟨c, h1, h2⟩ | ⟨t, h1, h2, h3, h4, h5⟩
            · exact .inl ⟨c, by simpa using h1, h2⟩
            · refine .inr ⟨List.replicate (m + 1) (a : Int) ++ t, by rw [← List.append_assoc]; simpa using h1, by rw [List.length_append, List.length_replicate]; omega, ?_, ?_, ?_⟩
              · rw [runE_first (joins_rep.1 h5), Int.toNat_natCast, ← h3, List.append_assoc, ← e2, ← e1]
              · intro x hx
                rcases List.mem_append.1 hx with hx | hx
                · have := List.eq_of_mem_replicate hx
                  omega
                · exact h4 x hx
              · intro x r e
                rw [List.replicate_succ] at e
                simp at e
                rw [← e.1]
                exact ho
    · rw [runD_done h (by omega)]
      by_cases hy : 0 < ys.length
      · rw [if_pos hy]; exact .inl ⟨3, rfl, .inr rfl⟩
      · rw [if_neg hy]
        have : ys = [] := List.eq_nil_of_length_eq_zero (by omega)
        subst this
        exact .inr ⟨[], by rw [List.append_nil], by simp; omega, rfl, (fun x hx => by cases hx), (fun x r e => by cases e)⟩

/-- DECODED OF WHAT WAS ENCODED, whatever stands behind. -/
theorem runD_enc (t : List Int) : ∀ (f : Nat) (acc z : List Int) (n : Nat), U64 t → n < 18446744073709551616 → acc.length + t.length = n → t.length < f → Joins acc t →
    runD f acc (runE t ++ z) n = if 0 < z.length then ([], 3) else (acc ++ t, 0) := by
  induction t using run_ind with
  | h0 =>
    intro f acc z n _ _ hn hf _
    simp at hn
    rw [runE, List.nil_append, runD_done (by omega) (by simpa using hf), List.append_nil]
  | h1 v m t ha ih =>
    intro f acc z n hu h64 hn hf hj
    rw [List.length_append, List.length_replicate] at hn hf
    have hv := hu.head
    obtain ⟨a, rfl⟩ := Int.eq_ofNat_of_zero_le hv.1
    rw [runE_first ha, Int.toNat_natCast]
    have e1 : gs a ++ gs m ++ runE t ++ z = gs a ++ (gs m ++ (runE t ++ z)) := by simp
    rw [e1]
    have hs := sVarint_gs a (gs m ++ (runE t ++ z)) (by omega)
    have ed : (gs a ++ (gs m ++ (runE t ++ z))).drop (gs a).length = gs m ++ (runE t ++ z) := by simp
    have hs2 := sVarint_gs m (runE t ++ z) (by omega)
    rw [← ed] at hs2
    rw [runD_next (by omega) (by omega) hs hs2 (by omega) (hj a (List.replicate m (a : Int) ++ t) (by rw [List.replicate_succ]; rfl)), ed]
    have ed2 : (gs m ++ (runE t ++ z)).drop (gs m).length = runE t ++ z := by simp
    rw [ed2, ih (f - 1) (acc ++ List.replicate (m + 1) (a : Int)) z n hu.tail h64 (by rw [List.length_append, List.length_replicate]; omega) (by omega) (joins_rep.2 ha), List.append_assoc]
theorem take_app (a b : List Int) (k : Nat) (h : a.length ≤ k) : (a ++ b).take k = a ++ b.take (k - a.length) := by
  rw [List.take_append, List.take_of_length_le h]
/-- CUT OFF it is too short. -/
theorem runD_cut (t : List Int) : ∀ (f : Nat) (acc : List Int) (n k : Nat), U64 t → n < 18446744073709551616 → acc.length + t.length = n → t.length < f → Joins acc t → k < (runE t).length →
    runD f acc ((runE t).take k) n = ([], 2) := by
  induction t using run_ind with
  | h0 => intro f acc n k _ _ _ _ _ hk; simp [runE] at hk
  | h1 v m t ha ih =>
    intro f acc n k hu h64 hn hf hj hk
    rw [List.length_append, List.length_replicate] at hn hf
    have hv := hu.head
    obtain ⟨a, rfl⟩ := Int.eq_ofNat_of_zero_le hv.1
    rw [runE_first ha, Int.toNat_natCast] at hk ⊢
    rw [List.append_assoc] at hk ⊢
    rcases Nat.lt_or_ge k (gs a).length with h1 | h1
    · have e : (gs a ++ (gs m ++ runE t)).take k = (gs a).take k := by rw [List.take_append_of_le_length (by omega)]
      rw [e]
      exact runD_err1 (by omega) (by omega) (sVarint_short a k (by omega) h1) (by decide)
    · rw [take_app _ _ _ h1]
      have hs := sVarint_gs a ((gs m ++ runE t).take (k - (gs a).length)) (by omega)
      have ed : (gs a ++ (gs m ++ runE t).take (k - (gs a).length)).drop (gs a).length = (gs m ++ runE t).take (k - (gs a).length) := by simp
      rw [List.length_append, List.length_append] at hk
      rcases Nat.lt_or_ge (k - (gs a).length) (gs m).length with h2 | h2
      · have e : (gs m ++ runE t).take (k - (gs a).length) = (gs m).take (k - (gs a).length) := by rw [List.take_append_of_le_length (by omega)]
        refine runD_err2 (by omega) (by omega) hs (b := 0) (j := 0) (c := 2) ?_ (by decide)
        rw [ed, e]
        exact sVarint_short m _ (by omega) h2
      · have hs2 := sVarint_gs m ((runE t).take (k - (gs a).length - (gs m).length)) (by omega)
        rw [take_app _ _ _ h2] at hs ed ⊢
        rw [← ed] at hs2
        rw [runD_next (by omega) (by omega) hs hs2 (by omega) (hj a (List.replicate m (a : Int) ++ t) (by rw [List.replicate_succ]; rfl)), ed]
        have ed2 : (gs m ++ (runE t).take (k - (gs a).length - (gs m).length)).drop (gs m).length = (runE t).take (k - (gs a).length - (gs m).length) := by simp
        rw [ed2]
        exact ih (f - 1) (acc ++ List.replicate (m + 1) (a : Int)) n _ hu.tail h64 (by rw [List.length_append, List.length_replicate]; omega) (by omega) (joins_rep.2 ha) (by omega)
/-- AS FEWER NUMBERS it is refused. -/
theorem runD_less (t : List Int) : ∀ (f : Nat) (acc : List Int) (n : Nat), U64 t → t.length < 18446744073709551616 → acc.length ≤ n → n < acc.length + t.length → n - acc.length < f → Joins acc t →
    runD f acc (runE t) n = ([], 3) := by
  induction t using run_ind with
  | h0 => intro f acc n _ _ h1 h2; simp at h2; omega
  | h1 v m t ha ih =>
    intro f acc n hu h64 hn hl hf hj
    rw [List.length_append, List.length_replicate] at hl h64
    have hv := hu.head
    obtain ⟨a, rfl⟩ := Int.eq_ofNat_of_zero_le hv.1
    rw [runE_first ha, Int.toNat_natCast]
    by_cases h : acc.length < n
    · rw [List.append_assoc]
      have hs := sVarint_gs a (gs m ++ runE t) (by omega)
      have ed : (gs a ++ (gs m ++ runE t)).drop (gs a).length = gs m ++ runE t := by simp
      have hs2 := sVarint_gs m (runE t) (by omega)
      rw [← ed] at hs2
      by_cases hm : n - acc.length ≤ m
      · exact runD_err3 h (by omega) hs hs2 (.inl hm)
      · rw [runD_next h (by omega) hs hs2 (by omega) (hj a (List.replicate m (a : Int) ++ t) (by rw [List.replicate_succ]; rfl)), ed]
        have ed2 : (gs m ++ runE t).drop (gs m).length = runE t := by simp
        rw [ed2]
        exact ih (f - 1) (acc ++ List.replicate (m + 1) (a : Int)) n hu.tail (by omega) (by rw [List.length_append, List.length_replicate]; omega) (by rw [List.length_append, List.length_replicate]; omega) (by rw [List.length_append, List.length_replicate]; omega) (joins_rep.2 ha)
    · rw [runD_done h (by omega), if_pos]
      rw [List.length_append, List.length_append]
      have := gs_pos a
      omega

/-! how many runs, how many bytes that end a number -/
def ends (l : List Int) : Nat := l.countP fun y => decide (y < 128)
theorem ends_gs (v : Nat) : ends (gs v) = 1 := by
  induction v using Nat.strongRecOn with
  | _ v ih =>
    rcases Nat.lt_or_ge v 128 with h | h
    · rw [gs_small h]
      simp [ends]
      omega
    · rw [gs_big h]
      have := ih (v / 128) (by omega)
      unfold ends at *
      rw [List.countP_cons_of_neg (by simp; omega), this]
/-- how many runs open in t, behind the number v -/
def opens : Int → List Int → Nat
  | _, [] => 0
  | v, x :: t => (if x = v then 0 else 1) + opens x t
theorem ends_runR (t : List Int) : ∀ (v : Int) (k : Nat), ends (runR v k t) = 2 + 2 * opens v t := by
  induction t with
  | nil => intro v k; rw [runR, opens]; unfold ends; rw [List.countP_append]; have h1 := ends_gs v.toNat; have h2 := ends_gs k; unfold ends at h1 h2; omega
  | cons x t ih =>
    intro v k
    rw [runR, opens]
    by_cases h : x = v
    · rw [if_pos h, if_pos h, ih, h]; omega
    · rw [if_neg h, if_neg h]
      have h3 := ih x 0
      unfold ends at *
      rw [List.countP_append, List.countP_append, h3]
      have h1 := ends_gs v.toNat
      have h2 := ends_gs k
      unfold ends at h1 h2
      omega
theorem opens_drop (l : List Int) (k : Nat) (h : k < l.length) (v : Int) : opens v (l.drop k) = (if l.getD k 0 = v then 0 else 1) + opens (l.getD k 0) (l.drop (k + 1)) := by
  rw [List.drop_eq_getElem_cons h, opens, List.getD_eq_getElem?_getD, List.getElem?_eq_getElem h]
  rfl
theorem ends_drop (l : List Int) (k : Nat) (h : k < l.length) : ends (l.drop k) = (if l.getD k 0 < 128 then 1 else 0) + ends (l.drop (k + 1)) := by
  rw [List.drop_eq_getElem_cons h, List.getD_eq_getElem?_getD, List.getElem?_eq_getElem h]
  unfold ends
  rw [List.countP_cons]
  simp [Nat.add_comm]
theorem ends_le (l : List Int) : ends l ≤ l.length := List.countP_le_length
theorem opens_le (t : List Int) : ∀ v, opens v t ≤ t.length := by
  induction t with
  | nil => intro v; simp [opens]
  | cons x t ih =>
    intro v
    rw [opens, List.length_cons]
    have := ih x
    split <;> omega
end Go.Proofs.YtgbimghhdbmjiaaGreat

/- Package runs: a run's bytes, and numbers as runs. -/
namespace Go.Proofs.YtgbimghhdbmjiaaGreat
open Go.RowKit

theorem getD_mem0 (l : List Int) (k : Nat) (h : k < l.length) : l.getD k 0 ∈ l := by
  rw [List.getD_eq_getElem?_getD, List.getElem?_eq_getElem h]; simp

set_option maxHeartbeats 400000 in
set_option maxRecDepth 100000 in
/-- A RUN: its number, and how many more of it there are. -/
theorem run_any (v : Int) (c : Nat) (w : World) (h0 : 0 ≤ v) (h1 : v ≤ 18446744073709551615) (c0 : 1 ≤ c) (c1 : c ≤ 65536) :
    Calls Tryz.prog 100 #[.int .u64 v, .int .i64 c] w fun e w' => ∃ v', e = .returned v' ∧ w'.ownsRow w.heap.size 5 1 v' (gs v.toNat ++ gs (c - 1)).length ((gs v.toNat ++ gs (c - 1)).map (Value.int .u8)) ∧ Only (fun _ => False) w w' := by
  have A := hideIt (append_any (.slice none 0 0) [] v w (Bs.nil _ _) NoCap.nil (by simp) h0 h1)
  have H10 := hideIt (gs_le10 (v := v.toNat) (by omega))
  obtain ⟨m, rfl⟩ : ∃ m, c = m + 1 := ⟨c - 1, by omega⟩
  rw [Nat.add_sub_cancel]
  have em : ((m + 1 : Nat) : Int) - 1 = (m : Int) := by omega
  go_enter Tryz.func100, Tryz.ntmps100
  go_wp2_with fail
  refine A.out.mono ?_
  rintro e w1 ⟨v1, rfl, own1, o1⟩
  rw [List.nil_append] at own1
  have B := hideIt (append_any v1 (gs v.toNat) m w1 (Bs.of_own own1) (NoCap.of_own own1) (by have := H10.out; omega) (by omega) (by omega))
  have O1 := hideIt o1
  clear A own1 o1
  go_wp2_with fail
  refine B.out.mono ?_
  rintro e w2 ⟨v2, rfl, own2, o2⟩
  rw [Int.toNat_natCast] at own2
  have F := hideIt (And.intro (own_low own2 O1.out.size) (O1.out.trans o2 (fun _ _ f => f)))
  clear B own2 o2
  go_wp2
  go_ret
  exact ⟨_, rfl, F.out⟩

set_option maxHeartbeats 400000 in
set_option maxRecDepth 100000 in
theorem run_encode_long (v : Value) (xs : List Int) (w : World) (h : Bs .u64 w v xs) (hl : 65536 < xs.length) :
    Calls Tryz.prog 73 #[v] w fun e w' => e = .returned (.tuple #[.slice none 0 0, .int .i64 4]) ∧ w = w' := by
  obtain ⟨ao, cap, rfl⟩ := h.len
  have d0 : decide ((65536 : Int) < xs.length) = true := decide_eq_true (by omega)
  clear h hl
  generalize xs.length = m at *
  go_enter Tryz.func73, Tryz.ntmps73
  go_wp2
  go_step3
  go_wp2
  try rw [Exit.noGoto_ret]
  go_ret2
  exact ⟨rfl, rfl⟩

set_option maxHeartbeats 1600000 in
set_option maxRecDepth 100000 in
/-- NUMBERS ARE ENCODED: new memory. -/
theorem run_encode_bs (v : Value) (xs : List Int) (w : World) (h : Bs .u64 w v xs) (hu : U64 xs) (hl : xs.length ≤ 65536) :
    Calls Tryz.prog 73 #[v] w fun e w' => ∃ v', e = .returned (.tuple #[v', .int .i64 0]) ∧ w'.ownsRow w.heap.size 5 1 v' (runE xs).length ((runE xs).map (Value.int .u8)) ∧ Only (fun _ => False) w w' := by
  obtain ⟨i0, hi, hz0, hz1, hz2⟩ := info_parts Tryz.infoU8
  have HB := hideIt h
  have HU := hideIt hu
  have HEL := hideIt (runE_len xs hu (by omega))
  obtain ⟨ao, cap, rfl⟩ := h.len
  obtain ⟨n, hn⟩ : ∃ n, n = xs.length := ⟨_, rfl⟩
  rw [← hn] at hl HB HEL
  rw [← hn]
  have HN := hideIt hn
  have d0 : decide ((65536 : Int) < n) = false := decide_eq_false (by omega)
  clear h hu hn
  go_enter Tryz.func73, Tryz.ntmps73
  go_wp2
  go_step3
  go_wp2
  go_step3
  go_wp2
  go_loopg [0, 4] n (fun g s0 s4 wx => ∃ (ls o : List Int), Hid (ls.length = g) ∧ g ≤ n ∧ Bs .u64 w s0 ls ∧ Hid (o ++ runE ls = runE xs) ∧ U64 ls ∧ wx.ownsRow w.heap.size 5 1 s4 o.length (o.map (Value.int .u8)) ∧ Only (fun _ => False) w wx)
  case atStart => exact ⟨xs, [], HN.out.symm, Nat.le_refl _, HB.out, rfl, HU.out, World.ownsRow_nil _ _ _ _, Only.refl _ _⟩
  case round =>
    obtain ⟨ls, o, HL, hgn, hbs, HO, hul, hown, hon⟩ := hrel
    obtain ⟨W, hW⟩ : ∃ W, W = wr := ⟨_, rfl⟩
    subst hW
    have HBS := hideIt hbs
    obtain ⟨al, cl, el⟩ := hbs.len
    rw [HL.out] at el
    subst el
    have HUL := hideIt hul
    have HOWN := hideIt hown
    have HON := hideIt hon
    have HOL : Hid (o.length ≤ 2000000) := by
      have := congrArg List.length HO.out
      have := HEL.out
      rw [List.length_append] at *
      simp only [Hid]
      omega
    clear hbs hul hown hon HB HU
    obtain ⟨G, hG⟩ : ∃ G, G = gk := ⟨_, rfl⟩
    subst hG
    by_cases hg0 : G = 0
    · subst hg0
      have d1 : decide ((0 : Int) < ((0 : Nat) : Int)) = false := by simp
      have F : Hid (W.ownsRow w.heap.size 5 1 u4 (runE xs).length ((runE xs).map (Value.int .u8))) := by
        have e : ls = [] := List.eq_nil_of_length_eq_zero HL.out
        have := HO.out
        rw [e, runE, List.append_nil] at this
        simp only [Hid]
        rw [← this]; exact HOWN.out
      go_wp2
      try rw [Exit.noGoto_ret]
      go_ret2
      exact ⟨_, rfl, F.out, HON.out⟩
    · have d1 : decide ((0 : Int) < (G : Int)) = true := decide_eq_true (by omega)
      obtain ⟨b, off, cap', e1, hc0⟩ := (HBS.out.past HON.out).at 0 (by rw [HL.out]; omega)
      have ea : al = some ⟨b, off, none⟩ := by simp at e1; exact e1.1
      subst ea
      clear e1
      rw [Nat.add_zero] at hc0
      have hx0 := HUL.out (ls.getD 0 0) (getD_mem0 ls 0 (by rw [HL.out]; omega))
      obtain ⟨x0, hx⟩ : ∃ x0, x0 = ls.getD 0 0 := ⟨_, rfl⟩
      rw [← hx] at hc0 hx0
      have HX := hideIt hx
      clear hx
      go_wp2
      obtain ⟨O4, hO4⟩ : ∃ O4, O4 = u4 := ⟨_, rfl⟩
      subst hO4
      go_loopg [0, 4, 15] G (fun g2 s0 s4 s15 wy => ∃ j : Nat, j + g2 = G ∧ s0 = .slice (some ⟨b, off, none⟩) G cl ∧ s4 = O4 ∧ s15 = .int .i64 j ∧ Hid (∀ i, i < j → ls.getD i 0 = x0) ∧ W = wy)
      case atStart => exact ⟨0, by omega, rfl, rfl, rfl, (fun i hi => by omega), rfl⟩
      case round =>
        obtain ⟨j, hj, rfl, rfl, rfl, HJ, hw⟩ := hrel
        subst hw
        cases gk with
        | zero =>
          obtain rfl : j = G := by omega
          have R := hideIt (run_any x0 j W hx0.1 hx0.2 (by omega) (by omega))
          have HE : Hid (runE ls = gs x0.toNat ++ gs (j - 1)) := by
            simp only [Hid]
            rw [HX.out, ← HL.out]
            exact runE_all (by rw [HL.out]; omega) (fun i hi => by rw [← HX.out]; exact HJ.out i (by rw [← HL.out]; exact hi))
          go_wp2_with fail
          refine R.out.mono ?_
          rintro e w2 ⟨v2, rfl, own2, o2⟩
          have B2 := hideIt (Bs.of_own own2)
          have N2 := hideIt (NoCap.of_own own2)
          have O2 := hideIt (HON.out.same o2)
          have OWN2 := hideIt (o2.own HOWN.out (fun _ _ f => f))
          rw [← HE.out] at B2
          have HRL : Hid ((runE ls).length ≤ 2000000) := by
            have := congrArg List.length HO.out
            have := HEL.out
            rw [List.length_append] at *
            simp only [Hid]
            omega
          have hsz := O2.out.size
          clear R own2 o2
          go_wp2_with (at_builtin; refine wpList_append_bs _ rfl _ _ _ rfl w.heap.size 5 i0 (.int .u8 0) 1 Tryz.underlying22 hi hz0 hz1 hz2 rfl _ o.length (o.map (Value.int .u8)) rfl OWN2.out .u8 _ (runE ls) rfl B2.out N2.out ?c3 ?c4 hsz ?_)
          case c3 => have := HRL.out; have := HOL.out; unfold maxLen; omega
          case c4 => have := HRL.out; have := HOL.out; omega
          intro v' w3 own3 hgrow _ _
          have F : Hid (w3.ownsRow w.heap.size 5 1 v' (runE xs).length ((runE xs).map (Value.int .u8)) ∧ Only (fun _ => False) w w3) := by
            refine ⟨?_, O2.out.grown hgrow (fun k hk hq => by have := (OWN2.out.lt k hq).1; omega)⟩
            rw [← HO.out, List.length_append, List.map_append]; exact own3
          clear own3 hgrow
          go_wp2
          try rw [Exit.noGoto_ret]
          go_ret2
          exact ⟨_, rfl, F.out⟩
        | succ g =>
          have jl : j < G := by omega
          obtain ⟨b', off', cap'', e1, hcj⟩ := (HBS.out.past HON.out).at j (by rw [HL.out]; exact jl)
          have e2 : b = b' ∧ off = off' := by simp at e1; exact ⟨e1.1.1, e1.1.2⟩
          obtain ⟨rfl, rfl⟩ := e2
          clear e1
          have i0' : (0 : Int) ≤ (j : Int) := by omega
          have i1 : (j : Int) < (G : Int) := by omega
          obtain ⟨x, hx⟩ : ∃ x, x = ls.getD j 0 := ⟨_, rfl⟩
          rw [← hx] at hcj
          have HXJ := hideIt hx
          clear hx
          by_cases hxx : x = x0
          · subst hxx
            have z0 : (x != x) = false := by simp
            go_wp2
            go_roundg g
            case rel => exact ⟨j + 1, by omega, rfl, rfl, by go_num, (fun i hi => by
              rcases Nat.lt_or_ge i j with h | h
              · exact HJ.out i h
              · obtain rfl : i = j := by omega
                exact HXJ.out.symm), rfl⟩
            case measure => omega
          · have z0 : (x != x0) = true := by simpa using hxx
            have j0 : 0 < j := by
              rcases Nat.eq_zero_or_pos j with h | h
              · subst h
                exact absurd (HXJ.out.trans HX.out.symm) hxx
              · exact h
            have HE : Hid (runE ls = gs x0.toNat ++ gs (j - 1) ++ runE (ls.drop j)) := by
              simp only [Hid]
              rw [HX.out]
              exact runE_step j0 (by rw [HL.out]; exact jl) (fun i hi => by rw [← HX.out]; exact HJ.out i hi) (by rw [← HX.out, ← HXJ.out]; exact hxx)
            have R := hideIt (run_any x0 j W hx0.1 hx0.2 (by omega) (by omega))
            have hcap : G ≤ cl := by
              obtain ⟨_, _, e, h2, _⟩ := HBS.out
              simp at e
              have := HL.out
              omega
            have CUT := HBS.out.cut (n := j) (by omega)
            have hadd : (⟨b, off, none⟩ : Addr).add j = ⟨b, off + j, none⟩ := by unfold Addr.add; split <;> simp_all
            rw [Option.map_some, hadd] at CUT
            have CUT := hideIt CUT
            have k1 : (j : Int) ≤ (G : Int) := by omega
            have k2 : (j : Int) ≤ (cl : Int) := by omega
            have k3 : cl ≠ j := by omega
            go_wp2_with fail
            refine R.out.mono ?_
            rintro e w2 ⟨v2, rfl, own2, o2⟩
            have B2 := hideIt (Bs.of_own own2)
            have N2 := hideIt (NoCap.of_own own2)
            have O2 := hideIt (HON.out.same o2)
            have OWN2 := hideIt (o2.own HOWN.out (fun _ _ f => f))
            have HRL : Hid ((gs x0.toNat ++ gs (j - 1)).length ≤ 2000000) := by
              have h1 := congrArg List.length HO.out
              have h2 := HEL.out
              rw [HE.out] at h1
              simp only [List.length_append] at h1
              simp only [Hid, List.length_append]
              omega
            have hsz := O2.out.size
            obtain ⟨q, hq⟩ : ∃ q, q = gs x0.toNat ++ gs (j - 1) := ⟨_, rfl⟩
            rw [← hq] at B2 HRL HE
            clear R own2 o2 hq
            go_wp2_with (at_builtin; refine wpList_append_bs _ rfl _ _ _ rfl w.heap.size 5 i0 (.int .u8 0) 1 Tryz.underlying22 hi hz0 hz1 hz2 rfl _ o.length (o.map (Value.int .u8)) rfl OWN2.out .u8 _ q rfl B2.out N2.out ?c3 ?c4 hsz ?_)
            case c3 => have := HRL.out; have := HOL.out; unfold maxLen; omega
            case c4 => have := HRL.out; have := HOL.out; omega
            intro v' w3 own3 hgrow _ _
            have F : Hid (w3.ownsRow w.heap.size 5 1 v' (o ++ q).length ((o ++ q).map (Value.int .u8)) ∧ Only (fun _ => False) w w3) := by
              refine ⟨?_, O2.out.grown hgrow (fun k hk hq => by have := (OWN2.out.lt k hq).1; omega)⟩
              rw [List.length_append, List.map_append]; exact own3
            clear own3 hgrow OWN2 O2 B2 N2
            go_wp2
            go_roundg (G - j)
            case rel => exact ⟨ls.drop j, o ++ q, (by simp only [Hid]; rw [List.length_drop, HL.out]), by omega, CUT.out, (by simp only [Hid]; rw [List.append_assoc, ← HE.out]; exact HO.out), (fun y hy => HUL.out y (List.mem_of_mem_drop hy)), F.out⟩
            case measure => omega
end Go.Proofs.YtgbimghhdbmjiaaGreat

/- Package runs: runs are read, and bytes decoded. -/
namespace Go.Proofs.YtgbimghhdbmjiaaGreat
open Go.RowKit


set_option maxHeartbeats 400000 in
set_option maxRecDepth 100000 in
theorem goesOn_q (va : Value) (acc : List Int) (x : Int) (w : World) (h : Bs .u64 w va acc) (hl : acc.length ≤ 70000) :
    Calls Tryz.prog 82 #[va, .int .u64 x] w fun e w' => e = .returned (.bool (runOn acc x)) ∧ w = w' := by
  by_cases h0 : 0 < acc.length
  · obtain ⟨b, off, cap, rfl, hc⟩ := h.at (acc.length - 1) (by omega)
    have HR : Hid (runOn acc x = (acc.getD (acc.length - 1) 0 == x)) := by
      simp only [Hid, runOn]
      rw [decide_eq_true h0, Bool.true_and]
    generalize acc.getD (acc.length - 1) 0 = y at *
    obtain ⟨m, hm⟩ : ∃ m, acc.length = m + 1 := ⟨acc.length - 1, by omega⟩
    rw [hm] at hc hl ⊢
    rw [Nat.add_sub_cancel] at hc
    clear h hm h0
    have d0 : decide ((0 : Int) < ((m + 1 : Nat) : Int)) = true := decide_eq_true (by omega)
    go_enter Tryz.func82, Tryz.ntmps82
    go_wp2
    go_ret
    exact ⟨by rw [HR.out]; rfl, rfl⟩
  · have e : acc = [] := List.eq_nil_of_length_eq_zero (by omega)
    subst e
    obtain ⟨ao, cap, rfl⟩ := h.len
    clear h h0
    go_enter Tryz.func82, Tryz.ntmps82
    go_wp2
    go_ret
    exact ⟨rfl, rfl⟩

set_option maxHeartbeats 400000 in
set_option maxRecDepth 100000 in
theorem readRun_err1 {w : World} {R : Nat} {v : Value} {ys : List Int} (h : CurAt 51 w R v ys) {a : Int} {k : Nat} {c : Int} (hs : sVarint ys = (a, k, c)) (hc : c ≠ 0) :
    Calls Tryz.prog 81 #[.pointer (some ⟨R, 0, none⟩)] w fun e w' => e = .returned (.tuple #[.int .u64 0, .int .u64 0, .int .i64 c]) ∧ Only (fun k => k = R) w w' := by
  have A := varint_cur h
  rw [hs] at A
  have A := hideIt A
  have dc : (c != 0) = true := by simpa using hc
  clear h hs
  go_enter Tryz.func81, Tryz.ntmps81
  go_wp2_with fail
  refine A.out.mono ?_
  rintro e w1 ⟨rfl, v2, _, _, o1⟩
  have O1 := hideIt o1
  clear A o1
  go_wp2
  go_ret3
  exact ⟨rfl, O1.out⟩

set_option maxHeartbeats 400000 in
set_option maxRecDepth 100000 in
theorem readRun_err2 {w : World} {R : Nat} {v : Value} {ys : List Int} (h : CurAt 51 w R v ys) {a b : Int} {k j : Nat} {c : Int} (hs : sVarint ys = (a, k, 0)) (hs2 : sVarint (ys.drop k) = (b, j, c)) (hc : c ≠ 0) :
    Calls Tryz.prog 81 #[.pointer (some ⟨R, 0, none⟩)] w fun e w' => e = .returned (.tuple #[.int .u64 0, .int .u64 0, .int .i64 c]) ∧ Only (fun k => k = R) w w' := by
  have A := varint_cur h
  rw [hs] at A
  have A := hideIt A
  have HS2 := hideIt hs2
  have dc : (c != 0) = true := by simpa using hc
  clear h hs hs2
  go_enter Tryz.func81, Tryz.ntmps81
  go_wp2_with fail
  refine A.out.mono ?_
  rintro e w1 ⟨rfl, v2, cur2, _, o1⟩
  have B := varint_cur cur2
  rw [HS2.out] at B
  have B := hideIt B
  have O1 := hideIt o1
  clear A o1 cur2
  go_wp2_with fail
  refine B.out.mono ?_
  rintro e w2 ⟨rfl, v3, _, _, o2⟩
  have O2 := hideIt (O1.out.trans o2 (fun _ _ e => e))
  clear B o2
  go_wp2
  go_ret3
  exact ⟨rfl, O2.out⟩

set_option maxHeartbeats 400000 in
set_option maxRecDepth 100000 in
theorem readRun_ok {w : World} {R : Nat} {v : Value} {ys : List Int} (h : CurAt 51 w R v ys) {a b : Int} {k j : Nat} (hs : sVarint ys = (a, k, 0)) (hs2 : sVarint (ys.drop k) = (b, j, 0)) :
    Calls Tryz.prog 81 #[.pointer (some ⟨R, 0, none⟩)] w fun e w' => e = .returned (.tuple #[.int .u64 a, .int .u64 b, .int .i64 0]) ∧ ∃ v2, CurAt 51 w' R v2 ((ys.drop k).drop j) ∧ v2.ownBlock = v.ownBlock ∧ Only (fun k => k = R) w w' := by
  have A := varint_cur h
  rw [hs] at A
  have A := hideIt A
  have HS2 := hideIt hs2
  clear h hs hs2
  go_enter Tryz.func81, Tryz.ntmps81
  go_wp2_with fail
  refine A.out.mono ?_
  rintro e w1 ⟨rfl, v2, cur2, ob2, o1⟩
  have B := varint_cur cur2
  rw [HS2.out] at B
  have B := hideIt B
  have O1 := hideIt o1
  have OB := hideIt ob2
  clear A o1 cur2 ob2
  go_wp2_with fail
  refine B.out.mono ?_
  rintro e w2 ⟨rfl, v3, cur3, ob3, o2⟩
  have F := hideIt (And.intro cur3 (And.intro (ob3.trans OB.out) (O1.out.trans o2 (fun _ _ e => e))))
  clear B o2 cur3 ob3
  go_wp2
  go_ret3
  exact ⟨rfl, v3, F.out⟩

set_option maxHeartbeats 400000 in
set_option maxRecDepth 100000 in
theorem run_decode_arg (v : Value) (n : Int) (w : World) (h : n < 0 ∨ 65536 < n) :
    Calls Tryz.prog 49 #[v, .int .i64 n] w fun e w' => e = .returned (.tuple #[.slice none 0 0, .int .i64 1]) ∧ w = w' := by
  by_cases h0 : n < 0
  · have d0 : decide (n < 0) = true := decide_eq_true h0
    clear h
    go_enter Tryz.func49, Tryz.ntmps49
    go_wp2
    go_ret2
    exact ⟨rfl, rfl⟩
  · have d0 : decide (n < 0) = false := decide_eq_false h0
    have d1 : decide (65536 < n) = true := decide_eq_true (by omega)
    clear h
    go_enter Tryz.func49, Tryz.ntmps49
    go_wp2
    go_ret2
    exact ⟨rfl, rfl⟩
theorem rep_snoc (acc : List Int) (i : Nat) (a : Int) : acc ++ List.replicate (i + 1) a = acc ++ List.replicate i a ++ [a] := by
  rw [List.replicate_succ', List.append_assoc]

set_option maxHeartbeats 1600000 in
set_option maxRecDepth 100000 in
/-- BYTES ARE DECODED: new memory. -/
theorem run_decode_bs (v : Value) (ys : List Int) (n : Nat) (w : World) (h : Bs .u8 w v ys) (hr : ∀ y ∈ ys, 0 ≤ y ∧ y ≤ 255) (hl : ys.length ≤ 1000000000000) (hn : n ≤ 65536) :
    Calls Tryz.prog 49 #[v, .int .i64 n] w fun e w' => ∃ u, e = .returned (.tuple #[u, .int .i64 (runDec ys n).2]) ∧ w'.ownsRow w.heap.size 42 1 u (runDec ys n).1.length ((runDec ys n).1.map (Value.int .u64)) ∧ Only (fun _ => False) w w' := by
  obtain ⟨i0, hi, hz0, hz1, hz2⟩ := info_parts Tryz.infoU64
  have d0 : decide ((n : Int) < 0) = false := by simp
  have d1 : decide (65536 < (n : Int)) = false := by simp; omega
  have NW := hideIt (new_bs v ys w h hr hl)
  clear h hr
  go_enter Tryz.func49, Tryz.ntmps49
  go_wp2_with fail
  refine NW.out.mono ?_
  rintro e w1 ⟨R, v1, rfl, cur, o1, r0, r1, hv1⟩
  have HV1 := hideIt hv1
  have O1 := hideIt o1
  have CUR := hideIt cur
  have HR0 := hideIt (And.intro r0 o1.size)
  clear NW cur o1 hv1
  go_wp2
  go_loopg [7] n (fun g s7 wx => ∃ (f : Nat) (acc ys' : List Int) (v' : Value), wx.ownsRow w1.heap.size 42 1 s7 acc.length (acc.map (Value.int .u64)) ∧ CurAt 51 wx R v' ys' ∧ v'.ownBlock = v1.ownBlock ∧ Hid (acc.length + g = n) ∧ Hid (g < f) ∧ Hid (runD f acc ys' n = runDec ys n) ∧ Only (fun k => k = R) w1 wx)
  case atStart => exact ⟨n + 1, [], ys, v1, World.ownsRow_nil _ _ _ _, CUR.out, rfl, (by simp [Hid]), (by simp [Hid]), rfl, Only.refl _ _⟩
  case round =>
    obtain ⟨f, acc, ys', v', hown, hcur, hob, HG, HF, HD, hon⟩ := hrel
    clear CUR
    obtain ⟨W, hW⟩ : ∃ W, W = wr := ⟨_, rfl⟩
    subst hW
    obtain ⟨G, hG⟩ : ∃ G, G = gk := ⟨_, rfl⟩
    subst hG
    have HOWN := hideIt hown
    have HCUR := hideIt hcur
    have HOB := hideIt hob
    have HON := hideIt hon
    obtain ⟨a7, c7, e7⟩ := (Bs.of_own hown).len
    obtain ⟨m, hm⟩ : ∃ m, m = acc.length := ⟨_, rfl⟩
    rw [← hm] at e7 HOWN
    have HM := hideIt hm
    have hmn : m + G = n := by rw [hm]; exact HG.out
    subst e7
    by_cases hlt : G = 0
    · have d2 : decide ((m : Int) < (n : Int)) = false := decide_eq_false (by omega)
      have EC := hideIt (end_cur hcur)
      have HR := runD_done (f := f) (acc := acc) (ys := ys') (n := n) (by omega) (by have := HF.out; omega)
      rw [HD.out] at HR
      have HR := hideIt HR
      clear hown hcur hob hon hm
      by_cases hy : 0 < ys'.length
      · have HE : Hid (endV ys' = 3) := if_pos hy
        rw [if_pos hy] at HR
        rw [HE.out] at EC
        go_wp2_with fail
        refine EC.out.mono ?_
        rintro e w2 ⟨rfl, rfl⟩
        go_wp2
        go_ret2
        rw [HR.out]
        exact ⟨_, rfl, World.ownsRow_nil _ _ _ _, O1.out.trans HON.out (fun k hk e => by have := HR0.out.1; omega)⟩
      · have HE : Hid (endV ys' = 0) := if_neg hy
        rw [if_neg hy] at HR
        rw [HE.out] at EC
        go_wp2_with fail
        refine EC.out.mono ?_
        rintro e w2 ⟨rfl, rfl⟩
        go_wp2
        go_ret2
        rw [HR.out]
        exact ⟨_, rfl, by simp only; rw [← HM.out]; exact own_low HOWN.out HR0.out.2, O1.out.trans HON.out (fun k hk e => by have := HR0.out.1; omega)⟩
    · have d2 : decide ((m : Int) < (n : Int)) = true := decide_eq_true (by omega)
      have fp : 0 < f := by have := HF.out; omega
      have hln : acc.length < n := by omega
      rcases sVarint_cases hcur.rng with ⟨c, hs, hc⟩ | ⟨a, k, hs, k1, k2, ha, _⟩
      · have HR := runD_err1 hln fp hs (by omega)
        rw [HD.out] at HR
        have HR := hideIt HR
        have RR := hideIt (readRun_err1 hcur hs (by omega))
        have dc : (c != 0) = true := by simp; omega
        clear hown hcur hob hon hm hs hln
        go_wp2_with fail
        refine RR.out.mono ?_
        rintro e w2 ⟨rfl, o2⟩
        have O2 := hideIt (HON.out.trans o2 (fun _ _ e => e))
        clear RR o2
        go_wp2
        go_ret2
        rw [HR.out]
        exact ⟨_, rfl, World.ownsRow_nil _ _ _ _, O1.out.trans O2.out (fun k hk e => by have := HR0.out.1; omega)⟩
      · have hr2 : ∀ y ∈ ys'.drop k, 0 ≤ y ∧ y ≤ 255 := fun y hy => hcur.rng y (List.mem_of_mem_drop hy)
        rcases sVarint_cases hr2 with ⟨c, hs2, hc⟩ | ⟨b, j, hs2, j1, j2, hb, _⟩
        · have HR := runD_err2 hln fp hs hs2 (by omega)
          rw [HD.out] at HR
          have HR := hideIt HR
          have RR := hideIt (readRun_err2 hcur hs hs2 (by omega))
          have dc : (c != 0) = true := by simp; omega
          clear hown hcur hob hon hm hs hln hs2 hr2
          go_wp2_with fail
          refine RR.out.mono ?_
          rintro e w2 ⟨rfl, o2⟩
          have O2 := hideIt (HON.out.trans o2 (fun _ _ e => e))
          clear RR o2
          go_wp2
          go_ret2
          rw [HR.out]
          exact ⟨_, rfl, World.ownsRow_nil _ _ _ _, O1.out.trans O2.out (fun k hk e => by have := HR0.out.1; omega)⟩
        · have RR := hideIt (readRun_ok hcur hs hs2)
          have hq : (n : Int) - (m : Int) = (G : Int) := by omega
          have HS := hideIt (And.intro hs hs2)
          by_cases hbG : G ≤ b
          · have HR := runD_err3 hln fp hs hs2 (.inl (by omega))
            rw [HD.out] at HR
            have HR := hideIt HR
            have dg : decide ((G : Int) ≤ (b : Int)) = true := decide_eq_true (by omega)
            clear hown hcur hob hon hm hs hln hs2 hr2
            go_wp2_with fail
            refine RR.out.mono ?_
            rintro e w2 ⟨rfl, v2, _, _, o2⟩
            have O2 := hideIt (HON.out.trans o2 (fun _ _ e => e))
            clear RR o2
            go_wp2
            go_ret2
            rw [HR.out]
            exact ⟨_, rfl, World.ownsRow_nil _ _ _ _, O1.out.trans O2.out (fun k hk e => by have := HR0.out.1; omega)⟩
          · have dg : decide ((G : Int) ≤ (b : Int)) = false := decide_eq_false (by omega)
            cases ho : runOn acc (a : Int) with
            | true =>
              have HR := runD_err3 hln fp hs hs2 (.inr ho)
              rw [HD.out] at HR
              have HR := hideIt HR
              have HOA := hideIt ho
              clear hown hcur hob hon hm hs hln hs2 hr2 ho
              go_wp2_with fail
              refine RR.out.mono ?_
              rintro e w2 ⟨rfl, v2, _, _, o2⟩
              have O2 := hideIt (HON.out.trans o2 (fun _ _ e => e))
              have OW2 := o2.own HOWN.out (fun k hk e => by have := (HOWN.out.lt k hk).1; omega)
              have GO := goesOn_q (.slice a7 m c7) acc a w2 (Bs.of_own (by rw [← HM.out]; exact OW2)) (by rw [← HM.out]; omega)
              rw [HOA.out] at GO
              have GO := hideIt GO
              clear RR o2 OW2
              go_wp2_with fail
              refine GO.out.mono ?_
              rintro e w3 ⟨rfl, rfl⟩
              go_wp2
              go_ret2
              rw [HR.out]
              exact ⟨_, rfl, World.ownsRow_nil _ _ _ _, O1.out.trans O2.out (fun k hk e => by have := HR0.out.1; omega)⟩
            | false =>
              have HR := runD_next hln fp hs hs2 (by omega) ho
              rw [HD.out] at HR
              have HR := hideIt HR
              have HOA := hideIt ho
              have ha0 : (a : Int) ≤ 18446744073709551615 := by omega
              clear hown hcur hob hon hm hs hln hs2 hr2 ho
              go_wp2_with fail
              refine RR.out.mono ?_
              rintro e w2 ⟨rfl, v2, cur2, ob2, o2⟩
              have O2 := hideIt (HON.out.trans o2 (fun _ _ e => e))
              have OW2 := hideIt (o2.own HOWN.out (fun k hk e => by have := (HOWN.out.lt k hk).1; omega))
              have GO := goesOn_q (.slice a7 m c7) acc a w2 (Bs.of_own (by rw [← HM.out]; exact OW2.out)) (by rw [← HM.out]; omega)
              rw [HOA.out] at GO
              have GO := hideIt GO
              have CUR2 := hideIt cur2
              have OB2 := hideIt (ob2.trans HOB.out)
              clear RR o2 cur2 ob2
              go_wp2_with fail
              refine GO.out.mono ?_
              rintro e w3 ⟨rfl, rfl⟩
              have LIN := hideIt (O2.out.size)
              go_wp2
              go_loopg [7, 47] (b + 1) (fun g2 s7 s47 wy => ∃ i : Nat, i + g2 = b + 1 ∧ s47 = .int .u64 i ∧ wy.ownsRow w1.heap.size 42 1 s7 (m + i) ((acc ++ List.replicate i (a : Int)).map (Value.int .u64)) ∧ Only (fun k => w1.heap.size ≤ k) w2 wy)
              case atStart => exact ⟨0, by omega, rfl, by simpa using OW2.out, Only.refl _ _⟩
              case round =>
                obtain ⟨i, hib, rfl, hown, hon⟩ := hrel
                have HX := hideIt hon
                have hsz : w1.heap.size ≤ wr.heap.size := Nat.le_trans LIN.out hon.size
                clear OW2 GO hon
                cases gk with
                | zero =>
                  obtain rfl : i = b + 1 := by omega
                  have F : Hid (wr.ownsRow w1.heap.size 42 1 u7 (acc ++ List.replicate (b + 1) (a : Int)).length ((acc ++ List.replicate (b + 1) (a : Int)).map (Value.int .u64)) ∧ CurAt 51 wr R v2 ((ys'.drop k).drop j) ∧ v2.ownBlock = v1.ownBlock ∧ Only (fun k => k = R) w1 wr) := by
                    refine ⟨by rw [List.length_append, List.length_replicate, ← HM.out]; exact hown, CUR2.out.keep HX.out (by omega) (fun q hq e => ?_), OB2.out, O2.out.trans HX.out (fun q hq e => absurd e (by omega))⟩
                    rw [OB2.out] at hq
                    have := (HV1.out q hq).2
                    omega
                  have HLN : Hid ((acc ++ List.replicate (b + 1) (a : Int)).length + (G - (b + 1)) = n) := by
                    simp only [Hid]
                    rw [List.length_append, List.length_replicate, ← HM.out]; omega
                  have d3 : decide (((b + 1 : Nat) : Int) < ((b : Int) + 1)) = false := by simp
                  clear hown HX
                  go_wp2
                  go_roundg (G - (b + 1))
                  case rel => exact ⟨f - 1, _, _, v2, F.out.1, F.out.2.1, F.out.2.2.1, HLN.out, (by have := HF.out; simp only [Hid]; omega), HR.out.symm, F.out.2.2.2⟩
                  case measure => omega
                | succ g =>
                  have d3 : decide ((i : Int) < ((b : Int) + 1)) = true := decide_eq_true (by omega)
                  go_wp2_with (at_builtin; refine wpList_append_lies _ rfl _ _ _ rfl w1.heap.size 42 i0 (.int .u64 0) 1 8 Tryz.underlying39 hi hz0 hz1 hz2 rfl (by omega) _ (m + i) _ rfl (hown.alloc _) ⟨wr.heap.size, 0, none⟩ 1 1 [.int .u64 (a : Int)] rfl rfl ?c1 ?c2 (by omega) ?c3 ?c4 ?c5 (wr.heap.size + 1) (by simp) ?_)
                  case c1 => exact cell_one_new _ _ _
                  case c2 => intro u hu; simp at hu; subst hu; rfl
                  case c3 => unfold maxLen; omega
                  case c4 => omega
                  case c5 => simp; omega
                  intro gg cap1 w3 hown1 hgrow hat hg1
                  have o3 := hideIt ((HX.out.alloc _).grown hgrow (fun p _ hp => (hown.lt p hp).1))
                  have own3 : Hid (w3.ownsRow w1.heap.size 42 1 (.slice (some ⟨gg, 0, none⟩) (m + i + 1) cap1) (m + (i + 1)) ((acc ++ List.replicate (i + 1) (a : Int)).map (Value.int .u64))) := by
                    simp only [Hid]
                    rw [rep_snoc, ← Nat.add_assoc]; simpa using hown1
                  clear hown hown1 hgrow hat HX
                  go_wp2
                  go_roundg g
                  case rel => exact ⟨i + 1, by omega, by go_num, own3.out, o3.out⟩
                  case measure => omega
end Go.Proofs.YtgbimghhdbmjiaaGreat
