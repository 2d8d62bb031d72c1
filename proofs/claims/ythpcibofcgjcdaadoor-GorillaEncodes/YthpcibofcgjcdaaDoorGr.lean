/- Package gorilla: what differs, read: the state under way, and the window that is told. -/
import Derived.Test.YthpcibofcgjcdaaDoorGe
namespace Go.Proofs.YthpcibofcgjcdaaDoor
open Go.RowKit

theorem results_ct {P : Program} {fn : Func} {p u : Tmp} {ty : TypeId} (h : fn.results = #[.cell p ty, .tmp u]) (tmps : Array Value) (w : World) (g : Nat) (t : TypeId) (cs : Array Value) (fr : Nat × Nat) (d : TypeDesc)
    (hp : tmps.getD p undef = .pointer (some ⟨g, 0, none⟩)) (hg : w.heap[g]? = some (.cells cs t fr))
    (hu : P.underlying ty = some d) (hd : (match d with | .struct _ | .array _ _ => true | _ => false) = true) (hi : (P.info? ty).map (·.size) = some cs.size) :
    (results fn tmps).run P w = .ok (.tuple #[.agg cs, tmps.getD u undef]) w := by
  have hp' : tmps[p]?.getD undef = .pointer (some ⟨g, 0, none⟩) := by simpa using hp
  simp [results, h, hp', asAddr, run_loadVar_row w g t ty cs fr d hg hu hd hi]
theorem results_tct {P : Program} {fn : Func} {s p u : Tmp} {ty : TypeId} (h : fn.results = #[.tmp s, .cell p ty, .tmp u]) (tmps : Array Value) (w : World) (g : Nat) (t : TypeId) (cs : Array Value) (fr : Nat × Nat) (d : TypeDesc)
    (hp : tmps.getD p undef = .pointer (some ⟨g, 0, none⟩)) (hg : w.heap[g]? = some (.cells cs t fr))
    (hu : P.underlying ty = some d) (hd : (match d with | .struct _ | .array _ _ => true | _ => false) = true) (hi : (P.info? ty).map (·.size) = some cs.size) :
    (results fn tmps).run P w = .ok (.tuple #[tmps.getD s undef, .agg cs, tmps.getD u undef]) w := by
  have hp' : tmps[p]?.getD undef = .pointer (some ⟨g, 0, none⟩) := by simpa using hp
  simp [results, h, hp', asAddr, run_loadVar_row w g t ty cs fr d hg hu hd hi]

/-- behind some calls of the reader: the reader, a window's block and the answer's, both new -/
structure Rs (w : World) (R : Nat) (v : Value) (ys : List Int) (w1 : World) (p : Nat) (a d : Nat) : Prop where
  rd : RdAt 72 w1 R v ys p
  on : Only (fun k => k = R) w w1
  lt : R < w.heap.size
  vb : ∀ k, v.ownBlock = some k → k < w.heap.size
  box : w1.heap[w.heap.size]? = some (.cells #[.int .i64 a, .int .i64 d] 42 (0, 0))
  res : w1.heap[w.heap.size + 1]? = some (.cells #[.int .i64 0, .int .i64 0] 42 (0, 0))
theorem heap_in {w : World} {k : Nat} {o : Obj} (h : w.heap[k]? = some o) : k < w.heap.size := by
  rcases Nat.lt_or_ge k w.heap.size with e | e
  · exact e
  · rw [Array.getElem?_eq_none e] at h; cases h
theorem Rs.start {w : World} {R : Nat} {v : Value} {ys : List Int} {p : Nat} (h : RdAt 72 w R v ys p) (hv : ∀ k, v.ownBlock = some k → k < w.heap.size) (a d : Nat) :
    Rs w R v ys ((w.alloc (.cells #[.int .i64 a, .int .i64 d] 42)).alloc (.cells #[.int .i64 0, .int .i64 0] 42)) p a d where
  rd := h.keep (((Only.refl (fun _ => False) w).alloc _).alloc _) (fun f => f) (fun _ _ f => f)
  on := ((Only.refl _ w).alloc _).alloc _
  lt := heap_in h.cell
  vb := hv
  box := by
    have := heap_alloc_last w (.cells #[.int .i64 a, .int .i64 d] 42)
    exact ((Only.refl (fun _ => False) _).alloc _).heap this (fun f => f)
  res := by
    have := heap_alloc_last (w.alloc (.cells #[.int .i64 a, .int .i64 d] 42)) (.cells #[.int .i64 0, .int .i64 0] 42)
    rwa [show (w.alloc (.cells #[.int .i64 a, .int .i64 d] 42)).heap.size = w.heap.size + 1 from Array.size_push ..] at this
theorem Rs.get {w : World} {R : Nat} {v : Value} {ys : List Int} {w1 w2 : World} {p p2 : Nat} {a d : Nat} (h : Rs w R v ys w1 p a d) (h2 : RdAt 72 w2 R v ys p2) (o : Only (fun k => k = R) w1 w2) : Rs w R v ys w2 p2 a d where
  rd := h2
  on := h.on.trans o (fun _ _ e => e)
  lt := h.lt
  vb := h.vb
  box := o.heap h.box (fun e => by have := h.lt; omega)
  res := o.heap h.res (fun e => by have := h.lt; omega)
theorem Rs.past {w : World} {R : Nat} {v : Value} {ys : List Int} {w1 w2 : World} {p : Nat} {a d : Nat} (h : Rs w R v ys w1 p a d) (o : Only (fun _ => False) w1 w2) : Rs w R v ys w2 p a d :=
  h.get (h.rd.keep o (fun f => f) (fun _ _ f => f)) (o.mono (fun _ _ f => f.elim))
theorem Rs.set {w : World} {R : Nat} {v : Value} {ys : List Int} {w1 : World} {p : Nat} {a d : Nat} (h : Rs w R v ys w1 p a d) (a' d' : Nat) :
    Rs w R v ys ((w1.setCell ⟨w.heap.size, 0, none⟩ (.int .i64 a')).setCell ⟨w.heap.size, 1, none⟩ (.int .i64 d')) p a' d' where
  rd := h.rd.keep (setCell2_only (S := fun k => k = w.heap.size) _ _ rfl) (fun f => by have := h.lt; omega) (fun k hk f => by have := h.vb k hk; omega)
  on := ((h.on.setCell (p := ⟨w.heap.size, 0, none⟩) (fun f => absurd f (Nat.lt_irrefl _)) _).setCell (p := ⟨w.heap.size, 1, none⟩) (fun f => absurd f (Nat.lt_irrefl _)) _)
  lt := h.lt
  vb := h.vb
  box := setCell2_heap _ _ h.box
  res := (setCell2_only (S := fun k => k = w.heap.size) _ _ rfl).heap h.res (fun f => by omega)
theorem Rs.fin {w : World} {R : Nat} {v : Value} {ys : List Int} {w1 : World} {p : Nat} {a d : Nat} (h : Rs w R v ys w1 p a d) (x y : Value) {w2 : World} (e : w2 = (w1.setCell ⟨w.heap.size + 1, 0, none⟩ x).setCell ⟨w.heap.size + 1, 1, none⟩ y) :
    w2.heap[w.heap.size + 1]? = some (.cells #[x, y] 42 (0, 0)) ∧ RdAt 72 w2 R v ys p ∧ Only (fun k => k = R) w w2 := by
  subst e
  refine ⟨setCell2_heap _ _ h.res, h.rd.keep (setCell2_only (S := fun k => k = w.heap.size + 1) _ _ rfl) (fun f => by have := h.lt; omega) (fun k hk f => by have := h.vb k hk; omega), ?_⟩
  exact ((h.on.setCell (p := ⟨w.heap.size + 1, 0, none⟩) (fun (f : w.heap.size + 1 < w.heap.size) => absurd f (by omega)) _).setCell (p := ⟨w.heap.size + 1, 1, none⟩) (fun (f : w.heap.size + 1 < w.heap.size) => absurd f (by omega)) _)
/-- the next bits are there -/
theorem get_at {w : World} {R : Nat} {v : Value} {ys : List Int} {p : Nat} (h : RdAt 72 w R v ys p) (n : Nat) (h1 : n ≤ 64) (r : List Bool) (hr : (allBits ys).drop p = r) (hs : n ≤ r.length) :
    Calls Tryd.prog 39 #[.pointer (some ⟨R, 0, none⟩), .int .i64 n] w fun e w' => e = .returned (.tuple #[.int .u64 (bnum (r.take n) : Nat), .int .i64 0]) ∧
      RdAt 72 w' R v ys (p + n) ∧ (allBits ys).drop (p + n) = r.drop n ∧ Only (fun k => k = R) w w' := by
  have hl : r.length = 8 * ys.length - p := by rw [← hr, List.length_drop, allBits_length]
  have hp := h.le
  refine (get_rd h n (by omega) (by omega) (by omega)).mono ?_
  rintro e w' ⟨rfl, h2, h3⟩
  rw [Int.toNat_natCast] at h2
  rw [Int.toNat_natCast, hr]
  exact ⟨rfl, h2, by rw [← List.drop_drop, hr], h3⟩
theorem get_cut {w : World} {R : Nat} {v : Value} {ys : List Int} {p : Nat} (h : RdAt 72 w R v ys p) (n : Nat) (h1 : n ≤ 64) (r : List Bool) (hr : (allBits ys).drop p = r) (hs : r.length < n) :
    Calls Tryd.prog 39 #[.pointer (some ⟨R, 0, none⟩), .int .i64 n] w fun e w' => e = .returned (.tuple #[.int .u64 0, .int .i64 2]) ∧ Only (fun _ => False) w w' := by
  have hl : r.length = 8 * ys.length - p := by rw [← hr, List.length_drop, allBits_length]
  have hp := h.le
  exact get_short h n (by omega) (by omega) (by omega)

/-! readWindow -/
theorem bnum_11 (r : List Bool) (h : 11 ≤ r.length) : bnum (r.take 11) = bnum (r.take 5) * 64 + bnum ((r.drop 5).take 6) ∧ bnum (r.take 5) < 32 ∧ bnum ((r.drop 5).take 6) < 64 := by
  have e : r.take 11 = r.take 5 ++ (r.drop 5).take 6 := by
    rw [show (11 : Nat) = 5 + 6 from rfl, List.take_add]
  have l5 : (r.take 5).length = 5 := by rw [List.length_take]; omega
  have l6 : ((r.drop 5).take 6).length = 6 := by rw [List.length_take, List.length_drop]; omega
  have b5 := bnum_lt (r.take 5)
  have b6 := bnum_lt ((r.drop 5).take 6)
  rw [l5] at b5
  rw [l6] at b6
  rw [e, num_append, l6]
  exact ⟨rfl, b5, b6⟩
set_option maxHeartbeats 1000000 in
theorem readWindow_cut {w : World} {R : Nat} {v : Value} {ys : List Int} {p : Nat} (h : RdAt 72 w R v ys p) (r : List Bool) (hr : (allBits ys).drop p = r) (hs : r.length < 11) :
    Calls Tryd.prog 46 #[.pointer (some ⟨R, 0, none⟩)] w fun e w' => e = .returned (.tuple #[.agg #[.int .i64 0, .int .i64 0], .int .i64 2]) ∧ Only (fun k => k = R) w w' := by
  have h0 := h.keep ((Only.refl (fun _ => False) w).alloc (.cells #[.int .i64 0, .int .i64 0] 42)) (fun f => f) (fun _ _ f => f)
  have G := hideIt (get_cut h0 11 (by omega) r hr hs)
  clear h h0 hr hs
  go_enter Tryd.func46, Tryd.ntmps46
  go_wp2_with fail
  refine G.out.mono ?_
  rintro e w1 ⟨rfl, o1⟩
  have g1 := o1.heap (heap_alloc_last w _) (fun f => f)
  obtain ⟨c0, c1, f0, f1⟩ := two_cells g1
  have O1 := hideIt ((((Only.refl (fun k => k = R) w).alloc (.cells #[.int .i64 0, .int .i64 0] 42)).trans o1 (fun _ _ f => f.elim)))
  have HG := hideIt g1
  clear G o1 g1
  go_wp2
  exact bodyPost_ret (results_ct rfl _ _ w.heap.size 42 _ (0, 0) _ rfl (setCell2_heap _ _ HG.out) Tryd.underlying42 rfl Tryd.sizeWin) rfl ⟨rfl, (O1.out.setCell (p := ⟨w.heap.size, 0, none⟩) (fun f => absurd f (Nat.lt_irrefl _)) _).setCell (p := ⟨w.heap.size, 1, none⟩) (fun f => absurd f (Nat.lt_irrefl _)) _⟩
set_option maxHeartbeats 1000000 in
theorem trail_i (a d : Int) (w : World) (ha : 0 ≤ a ∧ a ≤ 64) (hd : 0 ≤ d ∧ d ≤ 64) :
    Calls Tryd.prog 36 #[.agg #[.int .i64 a, .int .i64 d]] w fun e w' => e = .returned (.int .i64 (64 - a - d)) ∧ Only (fun _ => False) w w' := by
  obtain ⟨x, rfl⟩ := Int.eq_ofNat_of_zero_le ha.1
  obtain ⟨y, rfl⟩ := Int.eq_ofNat_of_zero_le hd.1
  exact trail_any x y w (by omega) (by omega)
set_option maxHeartbeats 1000000 in
theorem readWindow_bad {w : World} {R : Nat} {v : Value} {ys : List Int} {p : Nat} (h : RdAt 72 w R v ys p) (hv : ∀ k, v.ownBlock = some k → k < w.heap.size) (r : List Bool) (hr : (allBits ys).drop p = r) (hs : 11 ≤ r.length) (hb : 63 < bnum (r.take 5) + bnum ((r.drop 5).take 6)) :
    Calls Tryd.prog 46 #[.pointer (some ⟨R, 0, none⟩)] w fun e w' => e = .returned (.tuple #[.agg #[.int .i64 0, .int .i64 0], .int .i64 3]) ∧
      RdAt 72 w' R v ys (p + 11) ∧ (allBits ys).drop (p + 11) = r.drop 11 ∧ Only (fun k => k = R) w w' := by
  have h0 := h.keep ((Only.refl (fun _ => False) w).alloc (.cells #[.int .i64 0, .int .i64 0] 42)) (fun f => f) (fun _ _ f => f)
  have G := hideIt (get_at h0 11 (by omega) r hr hs)
  have hR := heap_in h.cell
  obtain ⟨b1, b2, b3⟩ := bnum_11 r hs
  rw [b1] at G
  clear h h0 hr hs b1
  generalize bnum (r.take 5) = a at *
  generalize bnum ((r.drop 5).take 6) = c at *
  obtain ⟨t, ht⟩ : ∃ t, t = a * 64 + c := ⟨_, rfl⟩
  rw [← ht] at G
  have t1 : (t : Int) / 64 = (a : Int) := by omega
  have t2 : (t : Int) % 64 = (c : Int) := by omega
  have t3 : (t : Int) ≤ 4095 := by omega
  have dt : decide ((64 : Int) - (a : Int) - ((c : Int) + 1) < 0) = true := by simp; omega
  have TR := fun w => hideIt (trail_i (a : Int) ((c : Int) + 1) w (by omega) (by omega))
  clear ht
  go_enter Tryd.func46, Tryd.ntmps46
  go_wp2_with fail
  refine G.out.mono ?_
  rintro e w1 ⟨rfl, r1, d1, o1⟩
  have g1 := o1.heap (heap_alloc_last w _) (fun e => by omega)
  have O1 := hideIt ((((Only.refl (fun k => k = R) w).alloc (.cells #[.int .i64 0, .int .i64 0] 42)).trans o1 (fun _ _ f => f)))
  have HG := hideIt g1
  have RD := hideIt r1
  have DR := hideIt d1
  clear G o1 g1 r1 d1
  go_wp2_with fail
  refine (TR _).out.mono ?_
  rintro e w2 ⟨rfl, o2⟩
  have oA : Only (fun _ => False) w1 w2 := ((Only.refl (fun _ => False) w1).alloc _).trans o2 (fun _ _ f => f)
  have g2 := o2.heap (heap_alloc_last w1 _) (fun f => f)
  have g1 := oA.heap HG.out (fun f => f)
  have RD2 := hideIt (RD.out.keep oA (fun f => f) (fun _ _ f => f))
  have O2 := hideIt (O1.out.trans oA (fun _ _ f => f.elim))
  obtain ⟨c0, c1, f0, f1⟩ := two_cells g1
  obtain ⟨c2, c3, _, _⟩ := two_cells g2
  have HG2 := hideIt g1
  clear TR oA o2 g1 g2 RD O1 HG
  go_wp2
  exact bodyPost_ret (results_ct rfl _ _ w.heap.size 42 _ (0, 0) _ rfl (setCell2_heap _ _ HG2.out) Tryd.underlying42 rfl Tryd.sizeWin) rfl ⟨rfl, RD2.out.keep (setCell2_only (S := fun k => k = w.heap.size) _ _ rfl) (fun f => by omega) (fun k hk f => by have := hv k hk; omega), DR.out, (O2.out.setCell (p := ⟨w.heap.size, 0, none⟩) (fun f => absurd f (Nat.lt_irrefl _)) _).setCell (p := ⟨w.heap.size, 1, none⟩) (fun f => absurd f (Nat.lt_irrefl _)) _⟩
set_option maxHeartbeats 1000000 in
theorem readWindow_ok {w : World} {R : Nat} {v : Value} {ys : List Int} {p : Nat} (h : RdAt 72 w R v ys p) (hv : ∀ k, v.ownBlock = some k → k < w.heap.size) (r : List Bool) (hr : (allBits ys).drop p = r) (hs : 11 ≤ r.length) (hb : bnum (r.take 5) + bnum ((r.drop 5).take 6) ≤ 63) :
    Calls Tryd.prog 46 #[.pointer (some ⟨R, 0, none⟩)] w fun e w' => e = .returned (.tuple #[.agg #[.int .i64 (bnum (r.take 5) : Nat), .int .i64 ((bnum ((r.drop 5).take 6) : Nat) + 1)], .int .i64 0]) ∧
      RdAt 72 w' R v ys (p + 11) ∧ (allBits ys).drop (p + 11) = r.drop 11 ∧ Only (fun k => k = R) w w' := by
  have h0 := h.keep ((Only.refl (fun _ => False) w).alloc (.cells #[.int .i64 0, .int .i64 0] 42)) (fun f => f) (fun _ _ f => f)
  have G := hideIt (get_at h0 11 (by omega) r hr hs)
  have hR := heap_in h.cell
  obtain ⟨b1, b2, b3⟩ := bnum_11 r hs
  rw [b1] at G
  clear h h0 hr hs b1
  generalize bnum (r.take 5) = a at *
  generalize bnum ((r.drop 5).take 6) = c at *
  obtain ⟨t, ht⟩ : ∃ t, t = a * 64 + c := ⟨_, rfl⟩
  rw [← ht] at G
  have t1 : (t : Int) / 64 = (a : Int) := by omega
  have t2 : (t : Int) % 64 = (c : Int) := by omega
  have t3 : (t : Int) ≤ 4095 := by omega
  have dt : decide ((64 : Int) - (a : Int) - ((c : Int) + 1) < 0) = false := by simp; omega
  have TR := fun w => hideIt (trail_i (a : Int) ((c : Int) + 1) w (by omega) (by omega))
  clear ht
  go_enter Tryd.func46, Tryd.ntmps46
  go_wp2_with fail
  refine G.out.mono ?_
  rintro e w1 ⟨rfl, r1, d1, o1⟩
  have g1 := o1.heap (heap_alloc_last w _) (fun e => by omega)
  have O1 := hideIt ((((Only.refl (fun k => k = R) w).alloc (.cells #[.int .i64 0, .int .i64 0] 42)).trans o1 (fun _ _ f => f)))
  have HG := hideIt g1
  have RD := hideIt r1
  have DR := hideIt d1
  clear G o1 g1 r1 d1
  go_wp2_with fail
  refine (TR _).out.mono ?_
  rintro e w2 ⟨rfl, o2⟩
  have oA : Only (fun _ => False) w1 w2 := ((Only.refl (fun _ => False) w1).alloc _).trans o2 (fun _ _ f => f)
  have g2 := o2.heap (heap_alloc_last w1 _) (fun f => f)
  have g1 := oA.heap HG.out (fun f => f)
  have RD2 := hideIt (RD.out.keep oA (fun f => f) (fun _ _ f => f))
  have O2 := hideIt (O1.out.trans oA (fun _ _ f => f.elim))
  obtain ⟨c0, c1, f0, f1⟩ := two_cells g1
  obtain ⟨c2, c3, _, _⟩ := two_cells g2
  have HG2 := hideIt g1
  clear TR oA o2 g1 g2 RD O1 HG
  go_wp2
  exact bodyPost_ret (results_ct rfl _ _ w.heap.size 42 _ (0, 0) _ rfl (setCell2_heap _ _ HG2.out) Tryd.underlying42 rfl Tryd.sizeWin) rfl ⟨rfl, RD2.out.keep (setCell2_only (S := fun k => k = w.heap.size) _ _ rfl) (fun f => by omega) (fun k hk f => by have := hv k hk; omega), DR.out, (O2.out.setCell (p := ⟨w.heap.size, 0, none⟩) (fun f => absurd f (Nat.lt_irrefl _)) _).setCell (p := ⟨w.heap.size, 1, none⟩) (fun f => absurd f (Nat.lt_irrefl _)) _⟩
end Go.Proofs.YthpcibofcgjcdaaDoor
