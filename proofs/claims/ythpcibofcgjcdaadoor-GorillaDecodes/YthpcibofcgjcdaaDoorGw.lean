/- Package gorilla: what differs, written. -/
import Derived.Test.YthpcibofcgjcdaaDoorGf
namespace Go.Proofs.YthpcibofcgjcdaaDoor
open Go.RowKit

/-- a window that there may be, as its two numbers -/
def W2 (wn : Option (Nat × Nat)) (a d : Nat) : Prop := (wn = none ∧ a = 0 ∧ d = 0) ∨ ∃ z, wn = some (a, z) ∧ a ≤ 31 ∧ a + z + d = 64 ∧ 0 < d
theorem W2.none : W2 .none 0 0 := .inl ⟨rfl, rfl, rfl⟩
theorem W2.le {wn : Option (Nat × Nat)} {a d : Nat} (h : W2 wn a d) : a ≤ 31 ∧ d ≤ 64 := by
  rcases h with ⟨_, rfl, rfl⟩ | ⟨z, _, h1, h2, h3⟩ <;> omega

/-- behind some calls of the writer: the writer, a window's block and the answer's, both new -/
structure Ws (w : World) (lo B : Nat) (v : Value) (w1 : World) (v1 : Value) (l1 : List Bool) (a d : Nat) : Prop where
  wr : WrAt 39 5 w1 lo B v1 l1
  on : Only (Foot B v) w w1
  st : Stays w v v1
  nb : ∀ k, v1.ownBlock = some k → k ≠ w.heap.size ∧ k ≠ w.heap.size + 1
  lt : B < w.heap.size
  box : w1.heap[w.heap.size]? = some (.cells #[.int .i64 a, .int .i64 d] 42 (0, 0))
  res : w1.heap[w.heap.size + 1]? = some (.cells #[.int .i64 0, .int .i64 0] 42 (0, 0))
theorem WrAt.lt_size {T E : TypeId} {w : World} {lo B : Nat} {v : Value} {l : List Bool} (h : WrAt T E w lo B v l) : B < w.heap.size := Nat.lt_of_lt_of_le h.lt h.le
theorem Ws.start {w : World} {lo B : Nat} {v : Value} {l : List Bool} (h : WrAt 39 5 w lo B v l) (a d : Nat) :
    Ws w lo B v ((w.alloc (.cells #[.int .i64 a, .int .i64 d] 42)).alloc (.cells #[.int .i64 0, .int .i64 0] 42)) v l a d where
  wr := h.keep (((Only.refl (fun _ => False) w).alloc _).alloc _) (fun f => f) (fun _ _ f => f)
  on := ((Only.refl _ w).alloc _).alloc _
  st := Stays.refl _ _
  nb := fun k hk => by have := (h.own.lt k hk).2; omega
  lt := h.lt_size
  box := by
    have := heap_alloc_last w (.cells #[.int .i64 a, .int .i64 d] 42)
    exact ((Only.refl (fun _ => False) _).alloc _).heap this (fun f => f)
  res := by
    have := heap_alloc_last (w.alloc (.cells #[.int .i64 a, .int .i64 d] 42)) (.cells #[.int .i64 0, .int .i64 0] 42)
    rwa [show (w.alloc (.cells #[.int .i64 a, .int .i64 d] 42)).heap.size = w.heap.size + 1 from Array.size_push ..] at this
theorem Ws.big {w : World} {lo B : Nat} {v : Value} {w1 : World} {v1 : Value} {l1 : List Bool} {a d : Nat} (h : Ws w lo B v w1 v1 l1 a d) : w.heap.size + 1 < w1.heap.size := by
  rcases Nat.lt_or_ge (w.heap.size + 1) w1.heap.size with e | e
  · exact e
  · have := h.res
    rw [Array.getElem?_eq_none e] at this
    cases this
theorem Ws.put {w : World} {lo B : Nat} {v : Value} {w1 w2 : World} {v1 v2 : Value} {l1 l2 : List Bool} {a d : Nat} (h : Ws w lo B v w1 v1 l1 a d)
    (h2 : WrAt 39 5 w2 lo B v2 l2) (o : Only (Foot B v1) w1 w2) (s : Stays w1 v1 v2) : Ws w lo B v w2 v2 l2 a d where
  wr := h2
  on := h.on.trans o (foot_stays h.st)
  st := h.st.trans s h.on.size
  nb := fun k hk => by
    rcases s with e | e
    · rw [e] at hk; exact h.nb k hk
    · have := e k hk; have := h.big; omega
  lt := h.lt
  box := o.heap h.box (fun f => by
    rcases f with e | e
    · have := h.lt; omega
    · exact (h.nb _ e).1 rfl)
  res := o.heap h.res (fun f => by
    rcases f with e | e
    · have := h.lt; omega
    · exact (h.nb _ e).2 rfl)
theorem Ws.past {w : World} {lo B : Nat} {v : Value} {w1 w2 : World} {v1 : Value} {l1 : List Bool} {a d : Nat} (h : Ws w lo B v w1 v1 l1 a d) (o : Only (fun _ => False) w1 w2) : Ws w lo B v w2 v1 l1 a d :=
  h.put (h.wr.keep o (fun f => f) (fun _ _ f => f)) (o.mono (fun _ _ f => f.elim)) (Stays.refl _ _)
theorem setCell2_only {w : World} {K : Nat} (x y : Value) {S : Nat → Prop} (hS : S K) : Only S w ((w.setCell ⟨K, 0, none⟩ x).setCell ⟨K, 1, none⟩ y) :=
  ((Only.refl S w).setCell (fun _ => hS) x).setCell (fun _ => hS) y
theorem setCell2_heap {w : World} {K : Nat} {a b : Value} {T : TypeId} (x y : Value) (h : w.heap[K]? = some (.cells #[a, b] T (0, 0))) :
    ((w.setCell ⟨K, 0, none⟩ x).setCell ⟨K, 1, none⟩ y).heap[K]? = some (.cells #[x, y] T (0, 0)) := (heap_two ((heap_two h x).1) y).2
theorem Ws.set {w : World} {lo B : Nat} {v : Value} {w1 : World} {v1 : Value} {l1 : List Bool} {a d : Nat} (h : Ws w lo B v w1 v1 l1 a d) (a' d' : Nat) :
    Ws w lo B v ((w1.setCell ⟨w.heap.size, 0, none⟩ (.int .i64 a')).setCell ⟨w.heap.size, 1, none⟩ (.int .i64 d')) v1 l1 a' d' where
  wr := h.wr.keep (setCell2_only (S := fun k => k = w.heap.size) _ _ rfl) (fun f => by have := h.lt; omega) (fun k hk f => (h.nb k hk).1 f)
  on := ((h.on.setCell (p := ⟨w.heap.size, 0, none⟩) (fun f => absurd f (Nat.lt_irrefl _)) _).setCell (p := ⟨w.heap.size, 1, none⟩) (fun f => absurd f (Nat.lt_irrefl _)) _)
  st := h.st
  nb := h.nb
  lt := h.lt
  box := setCell2_heap _ _ h.box
  res := (setCell2_only (S := fun k => k = w.heap.size) _ _ rfl).heap h.res (fun f => by omega)
/-- the answer laid down -/
theorem Ws.fin {w : World} {lo B : Nat} {v : Value} {w1 : World} {v1 : Value} {l1 : List Bool} {a d : Nat} (h : Ws w lo B v w1 v1 l1 a d) (x y : Value) {w2 : World} (e : w2 = (w1.setCell ⟨w.heap.size + 1, 0, none⟩ x).setCell ⟨w.heap.size + 1, 1, none⟩ y) :
    w2.heap[w.heap.size + 1]? = some (.cells #[x, y] 42 (0, 0)) ∧ WrAt 39 5 w2 lo B v1 l1 ∧ Only (Foot B v) w w2 ∧ Stays w v v1 := by
  subst e
  refine ⟨setCell2_heap _ _ h.res, h.wr.keep (setCell2_only (S := fun k => k = w.heap.size + 1) _ _ rfl) (fun f => by have := h.lt; omega) (fun k hk f => (h.nb k hk).2 f), ?_, h.st⟩
  exact ((h.on.setCell (p := ⟨w.heap.size + 1, 0, none⟩) (fun (f : w.heap.size + 1 < w.heap.size) => absurd f (by omega)) _).setCell (p := ⟨w.heap.size + 1, 1, none⟩) (fun (f : w.heap.size + 1 < w.heap.size) => absurd f (by omega)) _)

theorem bits_01 : bitsOf (Int.toNat 0) (Int.toNat 1) = [false] := by decide
theorem bits_11 : bitsOf (Int.toNat 1) (Int.toNat 1) = [true] := by decide
set_option maxHeartbeats 1000000 in
theorem write_zero {w : World} {lo B : Nat} {v : Value} {l : List Bool} (h : WrAt 39 5 w lo B v l) (a d : Nat) (hl : l.length ≤ 100000000) :
    Calls Tryd.prog 17 #[.pointer (some ⟨B, 0, none⟩), .int .u64 0, .agg #[.int .i64 a, .int .i64 d]] w fun e w' => e = .returned (.agg #[.int .i64 a, .int .i64 d]) ∧
      ∃ v', WrAt 39 5 w' lo B v' (l ++ [false]) ∧ Only (Foot B v) w w' ∧ Stays w v v' := by
  have S0 := hideIt (Ws.start h a d)
  have P1 := hideIt (put_wr S0.out.wr 0 1 (by omega) (by omega) (by omega) (by omega) (by decide) (by omega))
  rw [bits_01] at P1
  clear h
  go_enter Tryd.func17, Tryd.ntmps17
  go_wp2_with fail
  refine P1.out.mono ?_
  rintro e w1 ⟨rfl, v1, h1, o1, s1⟩
  have S1 := hideIt (S0.out.put h1 o1 s1)
  clear h1 o1 s1 S0 P1
  obtain ⟨c0, c1, _, _⟩ := two_cells S1.out.box
  obtain ⟨c2, c3, f2, f3⟩ := two_cells S1.out.res
  go_wp2
  obtain ⟨g, r1, r2, r3⟩ := S1.out.fin (.int .i64 a) (.int .i64 d) rfl
  exact bodyPost_ret (results_cell_row rfl _ _ (w.heap.size + 1) 42 _ (0, 0) _ rfl g Tryd.underlying42 rfl Tryd.sizeWin) rfl ⟨rfl, v1, r1, r2, r3⟩
/-- the last of what is written: x without the window's bits -/
theorem put_in {w w1 : World} {lo B : Nat} {v v1 : Value} {l1 : List Bool} {a d : Nat} (S : Ws w lo B v w1 v1 l1 a d) (x : Int) (y z : Nat) (e3 : x / 2 ^ z = (y : Int)) (hy : y < 18446744073709551616) (hd : d ≤ 64) (y2 : wid y ≤ d) (hl : l1.length ≤ 1000000000) :
    Calls Tryd.prog 16 #[.pointer (some ⟨B, 0, none⟩), .int .u64 (x / 2 ^ z), .int .i64 d] w1 fun e w' => e = .returned (.int .i64 0) ∧ ∃ v', Ws w lo B v w' v' (l1 ++ bitsOf y d) a d := by
  rw [e3]
  refine (put_wr S.wr y d (by omega) (by omega) (by omega) (by omega) (by simpa using y2) hl).mono ?_
  rintro e w' ⟨rfl, v', h, o, s⟩
  simp only [Int.toNat_natCast] at h
  exact ⟨rfl, v', S.put h o s⟩
set_option maxHeartbeats 2000000 in
theorem write_fit {w : World} {lo B : Nat} {v : Value} {l : List Bool} (h : WrAt 39 5 w lo B v l) (a z d x : Nat) (hl : l.length ≤ 100000000) (h0 : 0 < x) (hx : x < 18446744073709551616) (hs : a + z + d = 64) (hd : 0 < d) (hf : fitsW x a z) :
    Calls Tryd.prog 17 #[.pointer (some ⟨B, 0, none⟩), .int .u64 x, .agg #[.int .i64 a, .int .i64 d]] w fun e w' => e = .returned (.agg #[.int .i64 a, .int .i64 d]) ∧
      ∃ v', WrAt 39 5 w' lo B v' (l ++ [true] ++ [false] ++ bitsOf (x / 2 ^ z) d) ∧ Only (Foot B v) w w' ∧ Stays w v v' := by
  have S0 := hideIt (Ws.start h a d)
  have P1 := hideIt (put_wr S0.out.wr 1 1 (by omega) (by omega) (by omega) (by omega) (by decide) (by omega))
  rw [bits_11] at P1
  have hne : ((x : Int) == 0) = false := by rw [beq_eq_false_iff_ne]; omega
  have z64 : (z : Int) < 64 := by omega
  have e3 : Hid ((x : Int) / 2 ^ z = ((x / 2 ^ z : Nat) : Int)) := by simp only [Hid]; push_cast; rfl
  have y1 : x / 2 ^ z ≤ x := Nat.div_le_self _ _
  have y2 : wid (x / 2 ^ z) ≤ d := ((fits_iff h0 hx hs hd).1 hf).2
  have FI := fun w => hideIt (fits_any a z d x w h0 hx hs hd)
  rw [decide_eq_true hf] at FI
  generalize hy : x / 2 ^ z = y at *
  clear h hf hy
  go_enter Tryd.func17, Tryd.ntmps17
  go_wp2_with fail
  refine P1.out.mono ?_
  rintro e w1 ⟨rfl, v1, h1, o1, s1⟩
  have S1 := hideIt (S0.out.put h1 o1 s1)
  clear h1 o1 s1 S0 P1
  obtain ⟨c0, c1, _, _⟩ := two_cells S1.out.box
  go_wp2_with fail
  refine (isNone_no a d _ (by omega)).mono ?_
  rintro e w2 ⟨rfl, o2⟩
  have S2 := hideIt (S1.out.past o2)
  clear S1 o2 c0 c1
  obtain ⟨c0, c1, _, _⟩ := two_cells S2.out.box
  go_wp2_with fail
  refine (FI _).out.mono ?_
  rintro e w3 ⟨rfl, o3⟩
  have S3 := hideIt (S2.out.past o3)
  clear S2 o3 c0 c1 FI
  have P3 := hideIt (put_wr S3.out.wr 0 1 (by omega) (by omega) (by omega) (by omega) (by decide) (by simp; omega))
  rw [bits_01] at P3
  go_wp2_with fail
  refine P3.out.mono ?_
  rintro e w4 ⟨rfl, v4, h4, o4, s4⟩
  have S4 := hideIt (S3.out.put h4 o4 s4)
  clear h4 o4 s4 S3 P3
  obtain ⟨c0, c1, _, _⟩ := two_cells S4.out.box
  go_wp2
  have SD := hideIt (S4.out.past ((Only.refl (fun _ => False) w4).drew))
  have hl4 : (l ++ [true] ++ [false]).length ≤ 1000000000 := by simp; omega
  go_region_with (first | (go_at_call 36; refine (trail_win a z d _ hs).mono ?_; rintro e w5 ⟨rfl, o5⟩; have S5 := hideIt (SD.out.past o5); have c2 := (two_cells S5.out.box).2.1) | (go_at_call 16; refine (put_in S5.out (x : Int) y z e3.out (by omega) (by omega) y2 hl4).mono ?_; rintro e w6 ⟨rfl, v6, S6⟩))
  all_goals
    have S7 := hideIt S6
    clear S6
    clear c0 c1
    obtain ⟨c0, c1, _, _⟩ := two_cells S7.out.box
    obtain ⟨c2, c3, f2, f3⟩ := two_cells S7.out.res
    go_wp2
    obtain ⟨g, r1, r2, r3⟩ := S7.out.fin (.int .i64 a) (.int .i64 d) rfl
    exact bodyPost_ret (results_cell_row rfl _ _ (w.heap.size + 1) 42 _ (0, 0) _ rfl g Tryd.underlying42 rfl Tryd.sizeWin) rfl ⟨rfl, v6, r1, r2, r3⟩
end Go.Proofs.YthpcibofcgjcdaaDoor
