import Derived.Deep.RegionHeld3
import Derived.Test.YtoflhbghdlaeaaaGreatDoorG3
namespace Go.Proofs.YtoflhbghdlaeaaaGreatDoor
set_option maxHeartbeats 4000000
set_option maxRecDepth 100000
open Go.RowKit _root_.Go.Proofs.Tryz
section
open Go.Shelf
attribute [local go_sem] Oper.semAt_some
theorem Jn {W : World} {A : Nat} {a c : Value} (hA : W.cell? ⟨A, 0, none⟩ = some a) (fA : W.frozen? ⟨A, 0, none⟩ = false) (hC : W.cell? ⟨A + 1, 0, none⟩ = some c) (fC : W.frozen? ⟨A + 1, 0, none⟩ = false) (u v : Value) :
 ((W.setCell ⟨A, 0, none⟩ u).setCell ⟨A + 1, 0, none⟩ v).drew.cell? ⟨A, 0, none⟩ = some u ∧ ((W.setCell ⟨A, 0, none⟩ u).setCell ⟨A + 1, 0, none⟩ v).drew.frozen? ⟨A, 0, none⟩ = false ∧
 ((W.setCell ⟨A, 0, none⟩ u).setCell ⟨A + 1, 0, none⟩ v).drew.cell? ⟨A + 1, 0, none⟩ = some v ∧ ((W.setCell ⟨A, 0, none⟩ u).setCell ⟨A + 1, 0, none⟩ v).drew.frozen? ⟨A + 1, 0, none⟩ = false := by
 refine⟨?_, ?_, ?_, ?_⟩
 · rw[World.cell?_drew, World.cell?_setCell_far _ _ _ _ (by simp)]
   exact World.cell?_setCell_same _ _ _ hA
 · show ((W.setCell ⟨A, 0, none⟩ u).setCell ⟨A + 1, 0, none⟩ v).frozen? ⟨A, 0, none⟩ = false
   rw[World.frozen?_setCell, World.frozen?_setCell]; exact fA
 · rw[World.cell?_drew]
   refine World.cell?_setCell_same _ _ _ (u := c) ?_;rw[World.cell?_setCell_far _ _ _ _ (by simp)]; exact hC
 · show ((W.setCell ⟨A, 0, none⟩ u).setCell ⟨A + 1, 0, none⟩ v).frozen? ⟨A + 1, 0, none⟩ = false
   rw[World.frozen?_setCell, World.frozen?_setCell]; exact fC
theorem wF (F : Fence) (n : Nat) (h3 : F.fn 259) (h5 : F.fn 283) (h7 : F.fn 302) (hro : F.round = none) (hn : 3 <= n) (b off cap : Nat) (zs : LI) (x0 : Int) (w : World)
 (c0 : w.cell? ⟨b, off, none⟩ = some (.int .u64 x0)) (hl : zs.length <= 1000000000) (hcap : zs.length + 1 <= cap) (hc1 : ¬ cap = 1) (hI : Low w.heap.size w (.slice (some ⟨b, off + 1, none⟩) zs.length (cap - 1)) zs) :
 CallsIn F n prog 259 #[.slice (some ⟨b, off, none⟩) (zs.length + 1) cap] w λe W' => e = .returned (.tuple #[.int .u64 (loF x0 zs), .int .u64 (hiF x0 zs)]) ∧ Below w.heap.size w W' := by
 have h1 : 1 <= n := by omega
 have d0 : (((zs.length + 1 : Nat) : Int) == 0) = false := by simp; omega
 have bd : (0 : Int) < ((zs.length + 1 : Nat) : Int) := by omega
 have HI := Qa hI;clear hI;refine callsIn_of_wp_marks func259 rfl h3 ?_ hro;simp only[ntmps259, List.size_toArray, Qi, List.length_nil, Nat.reduceAdd, Nat.reduceSub, Array.replicate_succ, Array.replicate_zero, List.push_toArray, List.append_toArray, List.nil_append, List.cons_append];have hbw : b < w.heap.size := World.block_lt_of_cell? w _ c0;have h9 : Below w.heap.size w ((w.alloc (.cells #[.int .u64 0] 24)).alloc (.cells #[.int .u64 0] 24)) := ((Below.refl _ w).alloc (Nat.le_refl _) _).alloc (by simp) _;have c1 := (h9.cell (p := ⟨b, off, none⟩) hbw).trans c0
 gi_wp2_with fail
 refine Code.wpIn_mono (Q := Exit.then (λa1 W1 => a1 = { tmps := #[.slice (some ⟨b, off, none⟩) (zs.length + 1) cap, undef, .pointer (some ⟨w.heap.size, 0, none⟩), .pointer (some ⟨w.heap.size + 1, 0, none⟩), undef, .slice (some ⟨b, off, none⟩) (zs.length + 1) cap, .int .i64 ((zs.length : Int) + 1), .bool false,
  .slice (some ⟨b, off, none⟩) (zs.length + 1) cap, .pointer (some ⟨b, off, none⟩), .int .u64 x0, .slice (some ⟨b, off, none⟩) (zs.length + 1) cap, .pointer (some ⟨b, off, none⟩), .int .u64 x0, undef, undef, undef, undef, undef, undef, undef, undef, undef, undef, undef, undef], defers := [] } ∧
  W1 = ((w.alloc (.cells #[.int .u64 x0] 24)).alloc (.cells #[.int .u64 x0] 24)).drew) (λ_ _ _ => False)) ?hq ?hr
 case hr =>
  gi_region
  all_goals exact⟨rfl, rfl⟩
 intro ex a1 W1 h
 cases ex
 all_goals first | exact False.elim h | skip
 obtain⟨rfl, rfl⟩ := h
 gi_wp2_with (gi_at_call 283; refine (Tv F (n - 1) h5 hro _ _ _ _).mono ?_; rintro e w' ⟨rfl, rfl⟩)
 clear c1 h9;obtain⟨W0, h0⟩ : ∃ W0, (((w.alloc (.cells #[.int .u64 x0] 24)).alloc (.cells #[.int .u64 x0] 24)).alloc (.cells #[.slice (some ⟨b, off + 1, none⟩) zs.length (cap - 1)] 201)).drew = W0 := ⟨_, rfl⟩;rw[h0]
 have hsz : W0.heap.size = w.heap.size + 1 + 1 + 1 := by rw[<- h0]; simp
 have bA : Boxed W0 w.heap.size 24 (.int .u64 x0) := by rw[<- h0]; exact ((Boxed.new w 24 (.int .u64 x0)).alloc _).alloc _
 have bC : Boxed W0 (w.heap.size + 1) 24 (.int .u64 x0) := by
  rw[<- h0];have h := (Boxed.new (w.alloc (.cells #[.int .u64 x0] 24)) 24 (.int .u64 x0)).alloc (.cells #[.slice (some ⟨b, off + 1, none⟩) zs.length (cap - 1)] 201);rw[World.size_alloc] at h; exact h
 have bN : Boxed W0 (w.heap.size + 1 + 1) 201 (.slice (some ⟨b, off + 1, none⟩) zs.length (cap - 1)) := by
  rw[<- h0];have h := Boxed.new ((w.alloc (.cells #[.int .u64 x0] 24)).alloc (.cells #[.int .u64 x0] 24)) 201 (.slice (some ⟨b, off + 1, none⟩) zs.length (cap - 1));rw[World.size_alloc, World.size_alloc] at h; exact h
 have h4 : Below w.heap.size w W0 := by rw[<- h0]; exact ((((Below.refl _ w).alloc (Nat.le_refl _) _).alloc (by simp) _).alloc (by simp; omega) _).drew
 have hL : Low w.heap.size W0 (.slice (some ⟨b, off + 1, none⟩) zs.length (cap - 1)) (zs) := HI.o.below h4;clear h0
 refine wpIn_rangeFunc_ownG hro h1 (gf := 302) (lb := #[.pointer (some ⟨w.heap.size + 1 + 1, 0, none⟩)]) rfl h7 (enters_of func302 (by kernel_rfl) rfl)
  (NE F (n - 1) h7 hro (by omega) (w.heap.size + 1 + 1) w.heap.size _ (zs) (by omega) W0 (by omega) (by omega) bN.cell hL) belowK_t (belowK_b (by omega)) (Below.refl _ _) (λ_ => rfl)
  (λpre W => ((W.cell? ⟨w.heap.size, 0, none⟩ = some (.int .u64 (loF x0 pre)) ∧ W.frozen? ⟨w.heap.size, 0, none⟩ = false) ∧ (W.cell? ⟨w.heap.size + 1, 0, none⟩ = some (.int .u64 (hiF x0 pre)) ∧ W.frozen? ⟨w.heap.size + 1, 0, none⟩ = false)) ∧ Below w.heap.size w W)
  (λ_ _ _ => False)
  (OwnFrom.and (Own.from (λs A B row hs hg hr => ⟨⟨cell_kept hs.1.1 hg hr, (frozen_kept hs.1.1 hg hr).trans hs.1.2⟩, ⟨cell_kept hs.2.1 hg hr, (frozen_kept hs.2.1 hg hr).trans hs.2.2⟩⟩) _) (ownFrom_below (Nat.le_refl _) (by omega)))
  (λ_ _ _ _ _ hs _ _ => hs)
  ⟨⟨⟨bA.cell, bA.frozen⟩, ⟨bC.cell, bC.frozen⟩⟩, h4⟩
  (λx => { tmps := #[.slice (some ⟨b, off, none⟩) (zs.length + 1) cap, undef, .pointer (some ⟨w.heap.size, 0, none⟩), .pointer (some ⟨w.heap.size + 1, 0, none⟩), .int .u64 x, .slice (some ⟨b, off, none⟩) (zs.length + 1) cap, .int .i64 ((zs.length : Int) + 1), .bool false,
    .slice (some ⟨b, off, none⟩) (zs.length + 1) cap, .pointer (some ⟨b, off, none⟩), .int .u64 x0, .slice (some ⟨b, off, none⟩) (zs.length + 1) cap, .pointer (some ⟨b, off, none⟩), .int .u64 x0, .slice (some ⟨b, off, none⟩) (zs.length + 1) cap, .slice (some ⟨b, off + 1, none⟩) zs.length (cap - 1), .func (.func 302) #[] #[.pointer (some ⟨w.heap.size + 1 + 1, 0, none⟩)], .int .u64 x, undef, undef, undef, undef, undef, undef, undef, undef], defers := [] }) ?assign ?body ?done ?stop
 case assign =>
  intro l x W K hK
  gi_wp2
  exact hK
 case body =>
  rintro l pre x W ⟨⟨⟨hc, hf⟩, ⟨h6, h8⟩⟩, hB⟩ _;clear bA bC bN h4 hL
  have hmx : prog.follows .mixedOrders = true := by kernel_rfl
  gi_wp2_with fail
  refine Code.wpIn_mono (Q := Exit.then (λa1 W1 => W1 = ((W.setCell ⟨w.heap.size, 0, none⟩ (.int .u64 (if x < loF x0 pre then x else loF x0 pre))).setCell ⟨w.heap.size + 1, 0, none⟩ (.int .u64 (if hiF x0 pre < x then x else hiF x0 pre))).drew) (λ_ _ _ => False)) ?hq2 ?hr2
  case hr2 =>
   gi_region_with_o (fail)
   all_goals exact rfl
  intro ex a1 W1 h
  cases ex
  all_goals first | exact False.elim h | skip
  obtain rfl := h;clear hmx;obtain⟨p1, p2, p3, p4⟩ := Jn hc hf h6 h8 (.int .u64 (if x < loF x0 pre then x else loF x0 pre)) (.int .u64 (if hiF x0 pre < x then x else hiF x0 pre))
  have q1 : (if x < loF x0 pre then x else loF x0 pre) = loF x0 (pre ++ [x]) := by rw[uX]; split <;> omega
  have q2 : (if hiF x0 pre < x then x else hiF x0 pre) = hiF x0 (pre ++ [x]) := by rw[Dz]; split <;> omega
  rw[q1, q2] at p1 p2 p3 p4 ⊢;clear q1 q2
  gi_wp2
  exact⟨(((KeepsOthers.setCell _ _ _).trans (KeepsOthers.setCell _ _ _)).trans (KeepsOthers.drew _)).from _, (((Below.refl w.heap.size W).setCell (p := ⟨w.heap.size, 0, none⟩) (Nat.le_refl _) _).setCell (p := ⟨w.heap.size + 1, 0, none⟩) (Nat.le_succ _) _).drew, ⟨⟨p1, p2⟩, ⟨p3, p4⟩⟩,
   ((hB.setCell (p := ⟨w.heap.size, 0, none⟩) (Nat.le_refl _) _).setCell (p := ⟨w.heap.size + 1, 0, none⟩) (Nat.le_succ _) _).drew⟩
 case done =>
  rintro D ys W hD rfl ⟨⟨⟨hc, hf⟩, ⟨h6, h8⟩⟩, hB⟩ hK;clear bA bC bN h4 hL
  gi_wp2
  refine Code.wpIn_mono (Q := Exit.then (λa1 W1 => (∃ t, a1 = { tmps := t, defers := [{ target := .collected D, args := #[] }] } ∧ t[2]?.getD undef = .pointer (some ⟨w.heap.size, 0, none⟩) ∧ t[3]?.getD undef = .pointer (some ⟨w.heap.size + 1, 0, none⟩)) ∧ W1 = ((W.setCell ⟨w.heap.size, 0, none⟩ (.int .u64 (loF x0 ys))).setCell ⟨w.heap.size + 1, 0, none⟩ (.int .u64 (hiF x0 ys))).drew) (λ_ _ _ => False)) ?hq3 ?hr3
  case hr3 =>
   gi_region
   all_goals exact⟨⟨_, rfl, rfl, rfl⟩, rfl⟩
  intro ex a1 W1 h
  cases ex
  all_goals first | exact False.elim h | skip
  obtain⟨⟨t, rfl, ht2, ht3⟩, rfl⟩ := h;obtain⟨p1, p2, p3, p4⟩ := Jn hc hf h6 h8 (.int .u64 (loF x0 ys)) (.int .u64 (hiF x0 ys));have hB2 := ((hB.setCell (p := ⟨w.heap.size, 0, none⟩) (Nat.le_refl _) (.int .u64 (loF x0 ys))).setCell (p := ⟨w.heap.size + 1, 0, none⟩) (Nat.le_succ _) (.int .u64 (hiF x0 ys))).drew;have h2 := (((KeepsOthers.setCell W ⟨w.heap.size, 0, none⟩ (.int .u64 (loF x0 ys))).trans (KeepsOthers.setCell _ ⟨w.heap.size + 1, 0, none⟩ (.int .u64 (hiF x0 ys)))).trans (KeepsOthers.drew _)).same D _ hK rfl
  gi_wp2
  refine⟨by simp, .inl ⟨_, _, rfl, run_takeDeferred h2, ?_⟩⟩;have r1 := cell_kept p1 (grownBy_putObj' _ D (.deferred none)) (λr e => by cases e; exact⟨_, h2, rfl⟩);have r3 := cell_kept p3 (grownBy_putObj' _ D (.deferred none)) (λr e => by cases e; exact⟨_, h2, rfl⟩);refine⟨.tuple #[.int .u64 (loF x0 ys), .int .u64 (hiF x0 ys)], ?_, rfl, hB2.trans (belowK_b (w := w) (Nat.le_refl _) _ D _ _ (by omega) h2 rfl rfl)⟩;simp[results, Tryz.f259, go_sem, r1, r3, ht2, ht3]
 case stop =>
  rintro D c pre W _ _ h _;exact h.elim
theorem EH (F : Fence) (n : Nat) (h3 : F.fn 259) (h5 : F.fn 283) (h7 : F.fn 302) (hro : F.round = none) (hn : 3 <= n) (b off : Nat) (x0 : Int) (w : World)
 (c0 : w.cell? ⟨b, off, none⟩ = some (.int .u64 x0))  :
 CallsIn F n prog 259 #[.slice (some ⟨b, off, none⟩) 1 1] w λe W' => e = .returned (.tuple #[.int .u64 (loF x0 []), .int .u64 (hiF x0 [])]) ∧ Below w.heap.size w W' := by
 have h1 : 1 <= n := by omega
 skip
 refine callsIn_of_wp_marks func259 rfl h3 ?_ hro;simp only[ntmps259, List.size_toArray, Qi, List.length_nil, Nat.reduceAdd, Nat.reduceSub, Array.replicate_succ, Array.replicate_zero, List.push_toArray, List.append_toArray, List.nil_append, List.cons_append];have hbw : b < w.heap.size := World.block_lt_of_cell? w _ c0;have h4 : Below w.heap.size w ((w.alloc (.cells #[.int .u64 0] 24)).alloc (.cells #[.int .u64 0] 24)) := ((Below.refl _ w).alloc (Nat.le_refl _) _).alloc (by simp) _;have c1 := (h4.cell (p := ⟨b, off, none⟩) hbw).trans c0
 gi_wp2_with fail
 refine Code.wpIn_mono (Q := Exit.then (λa1 W1 => a1 = { tmps := #[.slice (some ⟨b, off, none⟩) 1 1, undef, .pointer (some ⟨w.heap.size, 0, none⟩), .pointer (some ⟨w.heap.size + 1, 0, none⟩), undef, .slice (some ⟨b, off, none⟩) 1 1, .int .i64 1, .bool false,
  .slice (some ⟨b, off, none⟩) 1 1, .pointer (some ⟨b, off, none⟩), .int .u64 x0, .slice (some ⟨b, off, none⟩) 1 1, .pointer (some ⟨b, off, none⟩), .int .u64 x0, undef, undef, undef, undef, undef, undef, undef, undef, undef, undef, undef, undef], defers := [] } ∧
  W1 = ((w.alloc (.cells #[.int .u64 x0] 24)).alloc (.cells #[.int .u64 x0] 24)).drew) (λ_ _ _ => False)) ?hq ?hr
 case hr =>
  gi_region
  all_goals exact⟨rfl, rfl⟩
 intro ex a1 W1 h
 cases ex
 all_goals first | exact False.elim h | skip
 obtain⟨rfl, rfl⟩ := h
 gi_wp2_with (gi_at_call 283; refine (Tv F (n - 1) h5 hro _ _ _ _).mono ?_; rintro e w' ⟨rfl, rfl⟩)
 clear c1 h4;obtain⟨W0, h0⟩ : ∃ W0, (((w.alloc (.cells #[.int .u64 x0] 24)).alloc (.cells #[.int .u64 x0] 24)).alloc (.cells #[.slice (some ⟨b, off, none⟩) 0 0] 201)).drew = W0 := ⟨_, rfl⟩;rw[h0]
 have hsz : W0.heap.size = w.heap.size + 1 + 1 + 1 := by rw[<- h0]; simp
 have bA : Boxed W0 w.heap.size 24 (.int .u64 x0) := by rw[<- h0]; exact ((Boxed.new w 24 (.int .u64 x0)).alloc _).alloc _
 have bC : Boxed W0 (w.heap.size + 1) 24 (.int .u64 x0) := by
  rw[<- h0];have h := (Boxed.new (w.alloc (.cells #[.int .u64 x0] 24)) 24 (.int .u64 x0)).alloc (.cells #[.slice (some ⟨b, off, none⟩) 0 0] 201);rw[World.size_alloc] at h; exact h
 have bN : Boxed W0 (w.heap.size + 1 + 1) 201 (.slice (some ⟨b, off, none⟩) 0 0) := by
  rw[<- h0];have h := Boxed.new ((w.alloc (.cells #[.int .u64 x0] 24)).alloc (.cells #[.int .u64 x0] 24)) 201 (.slice (some ⟨b, off, none⟩) 0 0);rw[World.size_alloc, World.size_alloc] at h; exact h
 have h6 : Below w.heap.size w W0 := by rw[<- h0]; exact ((((Below.refl _ w).alloc (Nat.le_refl _) _).alloc (by simp) _).alloc (by simp; omega) _).drew
 have hL : Low w.heap.size W0 (.slice (some ⟨b, off, none⟩) 0 0) ([]) := ⟨_, _, rfl, λh => absurd rfl h⟩;clear h0
 refine wpIn_rangeFunc_ownG hro h1 (gf := 302) (lb := #[.pointer (some ⟨w.heap.size + 1 + 1, 0, none⟩)]) rfl h7 (enters_of func302 (by kernel_rfl) rfl)
  (NE F (n - 1) h7 hro (by omega) (w.heap.size + 1 + 1) w.heap.size _ ([]) (by decide) W0 (by omega) (by omega) bN.cell hL) belowK_t (belowK_b (by omega)) (Below.refl _ _) (λ_ => rfl)
  (λpre W => ((W.cell? ⟨w.heap.size, 0, none⟩ = some (.int .u64 (loF x0 pre)) ∧ W.frozen? ⟨w.heap.size, 0, none⟩ = false) ∧ (W.cell? ⟨w.heap.size + 1, 0, none⟩ = some (.int .u64 (hiF x0 pre)) ∧ W.frozen? ⟨w.heap.size + 1, 0, none⟩ = false)) ∧ Below w.heap.size w W)
  (λ_ _ _ => False)
  (OwnFrom.and (Own.from (λs A B row hs hg hr => ⟨⟨cell_kept hs.1.1 hg hr, (frozen_kept hs.1.1 hg hr).trans hs.1.2⟩, ⟨cell_kept hs.2.1 hg hr, (frozen_kept hs.2.1 hg hr).trans hs.2.2⟩⟩) _) (ownFrom_below (Nat.le_refl _) (by omega)))
  (λ_ _ _ _ _ hs _ _ => hs)
  ⟨⟨⟨bA.cell, bA.frozen⟩, ⟨bC.cell, bC.frozen⟩⟩, h6⟩
  (λx => { tmps := #[.slice (some ⟨b, off, none⟩) 1 1, undef, .pointer (some ⟨w.heap.size, 0, none⟩), .pointer (some ⟨w.heap.size + 1, 0, none⟩), .int .u64 x, .slice (some ⟨b, off, none⟩) 1 1, .int .i64 1, .bool false,
    .slice (some ⟨b, off, none⟩) 1 1, .pointer (some ⟨b, off, none⟩), .int .u64 x0, .slice (some ⟨b, off, none⟩) 1 1, .pointer (some ⟨b, off, none⟩), .int .u64 x0, .slice (some ⟨b, off, none⟩) 1 1, .slice (some ⟨b, off, none⟩) 0 0, .func (.func 302) #[] #[.pointer (some ⟨w.heap.size + 1 + 1, 0, none⟩)], .int .u64 x, undef, undef, undef, undef, undef, undef, undef, undef], defers := [] }) ?assign ?body ?done ?stop
 case assign =>
  intro l x W K hK
  gi_wp2
  exact hK
 case body =>
  intro l pre x W _ h;simp at h
 case done =>
  rintro D ys W hD rfl ⟨⟨⟨hc, hf⟩, ⟨hc2, hf2⟩⟩, hB⟩ hK;clear bA bC bN h6 hL
  gi_wp2
  refine Code.wpIn_mono (Q := Exit.then (λa1 W1 => (∃ t, a1 = { tmps := t, defers := [{ target := .collected D, args := #[] }] } ∧ t[2]?.getD undef = .pointer (some ⟨w.heap.size, 0, none⟩) ∧ t[3]?.getD undef = .pointer (some ⟨w.heap.size + 1, 0, none⟩)) ∧ W1 = ((W.setCell ⟨w.heap.size, 0, none⟩ (.int .u64 (loF x0 []))).setCell ⟨w.heap.size + 1, 0, none⟩ (.int .u64 (hiF x0 []))).drew) (λ_ _ _ => False)) ?hq3 ?hr3
  case hr3 =>
   gi_region
   all_goals exact⟨⟨_, rfl, rfl, rfl⟩, rfl⟩
  intro ex a1 W1 h
  cases ex
  all_goals first | exact False.elim h | skip
  obtain⟨⟨t, rfl, ht2, ht3⟩, rfl⟩ := h;obtain⟨p1, p2, p3, p4⟩ := Jn hc hf hc2 hf2 (.int .u64 (loF x0 [])) (.int .u64 (hiF x0 []));have hB2 := ((hB.setCell (p := ⟨w.heap.size, 0, none⟩) (Nat.le_refl _) (.int .u64 (loF x0 []))).setCell (p := ⟨w.heap.size + 1, 0, none⟩) (Nat.le_succ _) (.int .u64 (hiF x0 []))).drew;have h2 := (((KeepsOthers.setCell W ⟨w.heap.size, 0, none⟩ (.int .u64 (loF x0 []))).trans (KeepsOthers.setCell _ ⟨w.heap.size + 1, 0, none⟩ (.int .u64 (hiF x0 [])))).trans (KeepsOthers.drew _)).same D _ hK rfl
  gi_wp2
  refine⟨by simp, .inl ⟨_, _, rfl, run_takeDeferred h2, ?_⟩⟩;have r1 := cell_kept p1 (grownBy_putObj' _ D (.deferred none)) (λr e => by cases e; exact⟨_, h2, rfl⟩);have r3 := cell_kept p3 (grownBy_putObj' _ D (.deferred none)) (λr e => by cases e; exact⟨_, h2, rfl⟩);refine⟨.tuple #[.int .u64 (loF x0 []), .int .u64 (hiF x0 [])], ?_, rfl, hB2.trans (belowK_b (w := w) (Nat.le_refl _) _ D _ _ (by omega) h2 rfl rfl)⟩;simp[results, Tryz.f259, go_sem, r1, r3, ht2, ht3]
 case stop =>
  rintro D c pre W _ _ h _;exact h.elim
end
end Go.Proofs.YtoflhbghdlaeaaaGreatDoor
