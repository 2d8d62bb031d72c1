/- The search for a clash: what its answer is. -/
import Derived.Test.YtnifflnhbpfmnaaRv20
import Derived.Deep.CutRange
namespace Go.Proofs.Ytnifflnhbpfmnaa
open Go.RowKit
set_option linter.unusedVariables false

theorem results_c4 {P : Program} {fn : Func} {p s1 s2 s3 s4 : Tmp} {ty : TypeId} (h : fn.results = #[.cell p ty, .tmp s1, .tmp s2, .tmp s3, .tmp s4]) (tmps : Array Value) (w : World) (g : Nat) (t : TypeId) (cs : Array Value) (fr : Nat × Nat) (d : TypeDesc)
    (hp : tmps.getD p undef = .pointer (some ⟨g, 0, none⟩)) (hg : w.heap[g]? = some (.cells cs t fr))
    (hu : P.underlying ty = some d) (hd : (match d with | .struct _ | .array _ _ => true | _ => false) = true) (hi : (P.info? ty).map (·.size) = some cs.size) :
    (results fn tmps).run P w = .ok (.tuple #[.agg cs, tmps.getD s1 undef, tmps.getD s2 undef, tmps.getD s3 undef, tmps.getD s4 undef]) w := by
  have hp' : tmps[p]?.getD undef = .pointer (some ⟨g, 0, none⟩) := by simpa using hp
  simp [results, h, hp', asAddr, run_loadVar_row w g t ty cs fr d hg hu hd hi]
theorem Try.sizePair : (Try.prog.info? 42).map (·.size) = some 2 := by kernel_rfl
/-- a pair of texts, or any two slices where none is told -/
def PK (w : World) (ca cb : Value) (o : Option (List Int × List Int)) : Prop := ∃ x y, Bs .u8 w ca x ∧ NoCap ca ∧ Bs .u8 w cb y ∧ NoCap cb ∧ ∀ c, o = some c → c = (x, y)
theorem PK.past {w w' : World} {ca cb : Value} {o : Option (List Int × List Int)} (h : PK w ca cb o) (k : Only (fun _ => False) w w') : PK w' ca cb o := by
  obtain ⟨x, y, h1, h2, h3, h4, h5⟩ := h
  exact ⟨x, y, h1.past k, h2, h3.past k, h4, h5⟩
theorem PK.none (w : World) : PK w (.slice none 0 0) (.slice none 0 0) none := ⟨[], [], Bs.nil _ _, NoCap.nil, Bs.nil _ _, NoCap.nil, fun c h => by cases h⟩
theorem PK.form {w : World} {ca cb : Value} {o : Option (List Int × List Int)} (h : PK w ca cb o) : (∃ ao l c, ca = .slice ao l c) ∧ ∃ ao l c, cb = .slice ao l c := by
  obtain ⟨x, y, h1, h2, h3, h4, h5⟩ := h
  obtain ⟨ao, c, e⟩ := h1.len
  obtain ⟨ao', c', e'⟩ := h3.len
  exact ⟨⟨_, _, _, e⟩, ⟨_, _, _, e'⟩⟩

/-- bytes do not lie in a block of slices -/
theorem Bs.off_rows {w : World} {G : Nat} {t : TypeId} {cs : List Value} {v : Value} {xs : List Int} (hB : Blk w G t cs) (hs : ∀ u ∈ cs, ∃ ao l c, u = .slice ao l c) (hb : Bs .u8 w v xs) (hx : xs ≠ []) : ∀ b, v.ownBlock = some b → ¬ b = G := by
  obtain ⟨ao, cap, rfl, hc, hr⟩ := hb
  obtain ⟨b, off, rfl, hcell⟩ := hr hx
  intro k hk e
  simp [Value.ownBlock] at hk
  subst hk
  subst e
  have h0 := hcell 0 (List.length_pos_iff.2 hx)
  rw [hB.cell] at h0
  obtain ⟨ao, l, c, e⟩ := hs _ (List.mem_of_getElem? h0)
  cases e
theorem two_rows {ca cb : Value} (h : (∃ ao l c, ca = Value.slice ao l c) ∧ ∃ ao l c, cb = Value.slice ao l c) : ∀ u ∈ [ca, cb], ∃ ao l c, u = .slice ao l c := fun u hu => by
  simp only [List.mem_cons, List.not_mem_nil, or_false] at hu
  rcases hu with rfl | rfl
  · exact h.1
  · exact h.2
theorem Bs.keepR {w w' : World} {G : Nat} {t : TypeId} {cs : List Value} {v : Value} {xs : List Int} (hb : Bs .u8 w v xs) (hB : Blk w G t cs) (hs : ∀ u ∈ cs, ∃ ao l c, u = .slice ao l c) (o : Only (fun k => k = G) w w') : Bs .u8 w' v xs := hb.keepE o (fun hx => Bs.off_rows hB hs hb hx)
theorem PK.keepR {w w' : World} {G : Nat} {t : TypeId} {cs : List Value} {ca cb : Value} {oo : Option (List Int × List Int)} (h : PK w ca cb oo) (hB : Blk w G t cs) (hs : ∀ u ∈ cs, ∃ ao l c, u = .slice ao l c) (o : Only (fun k => k = G) w w') : PK w' ca cb oo := by
  obtain ⟨x, y, h1, h2, h3, h4, h5⟩ := h
  exact ⟨x, y, h1.keepR hB hs o, h2, h3.keepR hB hs o, h4, h5⟩
theorem set2_only (w : World) (G : Nat) (a b : Value) : Only (fun k => k = G) w ((w.setCell ⟨G, 0, none⟩ a).setCell ⟨G, 1, none⟩ b) :=
  Only.setCell (S := fun k => k = G) (p := ⟨G, 1, none⟩) (Only.setCell (S := fun k => k = G) (p := ⟨G, 0, none⟩) (Only.refl _ _) (fun _ => rfl) a) (fun _ => rfl) b
theorem set2_blk {w : World} {G : Nat} {t : TypeId} {c d : Value} (h : Blk w G t [c, d]) (a b : Value) : Blk ((w.setCell ⟨G, 0, none⟩ a).setCell ⟨G, 1, none⟩ b) G t [a, b] := (h.set 0 a).set 1 b
/-- the first of two that is told -/
def OR2 (a b : Option (List Int × List Int)) : Option (List Int × List Int) := match a with | some c => some c | none => b
def CL2 (o : Option (List Int × List Int)) (a1 a2 e1 e2 : List Int) : Option (List Int × List Int) := match o with
  | some c => some c
  | none => if NODE a1 e1 = NODE a2 e2 ∧ (1 : Int) :: (a1 ++ e1) ≠ 1 :: (a2 ++ e2) then some (1 :: (a1 ++ e1), 1 :: (a2 ++ e2)) else none
theorem CLS_step {f lo hi i : Nat} {x y p q : List (List Int)} {a : Nat} (h1 : ¬ (i + x.length ≤ lo ∨ hi ≤ i)) (h2 : ¬ hi - lo = 1) {L R : Option (List Int × List Int) × List Int × List Int × Nat} (hL : L = CLS f lo (lo + HALF (hi - lo)) i x y p q a) (hR : R = CLS f (lo + HALF (hi - lo)) hi i x y p q L.2.2.2) :
    CLS (f + 1) lo hi i x y p q a = (CL2 (OR2 L.1 R.1) L.2.1 L.2.2.1 R.2.1 R.2.2.1, NODE L.2.1 R.2.1, NODE L.2.2.1 R.2.2.1, R.2.2.2) := by
  rw [CLS, if_neg h1, if_neg h2]
  simp only
  rw [← hL, ← hR]
  unfold CL2 OR2
  cases L.1 <;> cases R.1 <;> rfl

set_option maxHeartbeats 3200000 in
set_option maxRecDepth 100000 in
theorem clash_in (i j bx ox bz oz mx cx cz : Nat) (x y : List (List Int)) (x5 : R5 x) (y5 : R5 y) (hmx : x.length = mx) (hmy : y.length = mx) (hx0 : 0 < mx) (hcx : mx ≤ cx) (hcz : mx ≤ cz) (hin : i + mx ≤ 1000000000) (hj : j = i + mx - 1)
    (vp vz : Value) (p z : List (List Int)) (p5 : R5 p) (z5 : R5 z) (hpl : p.length ≤ 1000000000) (hpz : z.length = p.length) :
    ∀ (k lo hi a : Nat) (w : World), lo < hi → hi - lo ≤ k → hi ≤ 1000000000 → a + MNY (k + 1) lo hi i j ≤ p.length → RL w (.slice (some ⟨bx, ox, none⟩) mx cx) x → RL w (.slice (some ⟨bz, oz, none⟩) mx cz) y → RL w vp p → RL w vz z →
    Calls Try.prog 27 #[.int .i64 lo, .int .i64 hi, .int .i64 i, .slice (some ⟨bx, ox, none⟩) mx cx, .slice (some ⟨bz, oz, none⟩) mx cz, vp, vz, .int .i64 a] w
      fun e w' => ∃ ca cb va vb, e = .returned (.tuple #[.agg #[ca, cb], .bool (CLS (k + 1) lo hi i x y p z a).1.isSome, va, vb, .int .i64 (((CLS (k + 1) lo hi i x y p z a).2.2.2 : Nat) : Int)]) ∧ PK w' ca cb (CLS (k + 1) lo hi i x y p z a).1 ∧ Bs .u8 w' va (CLS (k + 1) lo hi i x y p z a).2.1 ∧ NoCap va ∧ Bs .u8 w' vb (CLS (k + 1) lo hi i x y p z a).2.2.1 ∧ NoCap vb ∧ Only (fun _ => False) w w' := by
  intro k
  induction k with
  | zero => intro lo hi a w h1 h2; omega
  | succ k ih =>
    intro lo hi a w hlt hk hh ham rx ry rp rz
    obtain ⟨x0, hxx⟩ : ∃ x, x = hi - 1 := ⟨_, rfl⟩
    have ex : (hi : Int) - 1 = (x0 : Int) := by omega
    by_cases hB2 : j < lo ∨ hi ≤ i
    · by_cases hB1 : j < lo
      · skip
        obtain ⟨t, ht⟩ : ∃ t, t = i + mx := ⟨_, rfl⟩
        have e2 : (i : Int) + (mx : Int) = (t : Int) := by omega
        have e3 : (t : Int) - 1 = (j : Int) := by omega
        have tb : (t : Int) ≤ 1000000000 := by omega
        have jb : (j : Int) ≤ 1000000000 := by omega
        have hxb : (x0 : Int) ≤ 1000000000 := by omega
        have hlb : (lo : Int) ≤ 1000000000 := by omega
        have hhb : (hi : Int) ≤ 1000000000 := by omega
        have e : CLS (k + 1 + 1) lo hi i x y p z a = (none, p.getD a [], z.getD a [], a + 1) := by rw [CLS, if_pos (by omega)]
        rw [e]
        have em : MNY (k + 1 + 1) lo hi i j = 1 := by rw [MNY, if_neg (by omega), if_pos (by omega)]
        rw [em] at ham
        obtain ⟨mp, hmp⟩ : ∃ mp, p.length = mp := ⟨_, rfl⟩
        rw [hmp] at hpz
        obtain ⟨bp, op, cp, rfl, hcp⟩ := rp.form hmp (by omega)
        obtain ⟨bq, oq, cq, rfl, hcq⟩ := rz.form hpz (by omega)
        obtain ⟨u, hu, hbu, nu⟩ := rp.at a (by omega)
        obtain ⟨v, hv, hbv, nv⟩ := rz.at a (by omega)
        have oA : Only (fun _ => False) w (w.alloc (.cells #[.slice none 0 0, .slice none 0 0] 42)) := (Only.refl _ _).alloc _
        have hB : Blk (w.alloc (.cells #[.slice none 0 0, .slice none 0 0] 42)) w.heap.size 42 [.slice none 0 0, .slice none 0 0] := Blk.new w 42 [.slice none 0 0, .slice none 0 0]
        have F0 := hideIt (fun (W : World) (o : Only (fun _ => False) w W) => And.intro (hbu.past o) (And.intro nu (And.intro (hbv.past o) (And.intro nv o))))
        obtain ⟨ao, cu, rfl⟩ := hbu.len
        obtain ⟨ao', cu', rfl⟩ := hbv.len
        obtain ⟨mu, hmu⟩ : ∃ mu, mu = (p.getD a []).length := ⟨_, rfl⟩
        obtain ⟨mv, hmv⟩ : ∃ mv, mv = (z.getD a []).length := ⟨_, rfl⟩
        rw [← hmu, ← hmv] at F0
        rw [← hmu] at hu
        rw [← hmv] at hv
        have ku := cell_past hu oA
        have kv := cell_past hv oA
        have k0 := hB.cell 0
        have k1 := hB.cell 1
        have f0 := hB.froz 0
        have f1 := hB.froz 1
        have nb1 : ¬ bp = w.heap.size := by have : bp < w.heap.size := World.block_lt_of_cell? w _ hu; omega
        have nb2 : ¬ bq = w.heap.size := by have : bq < w.heap.size := World.block_lt_of_cell? w _ hv; omega
        obtain ⟨a1, ha1⟩ : ∃ a1, a1 = a + 1 := ⟨_, rfl⟩
        have g0 : (0 : Int) ≤ (a : Int) := by omega
        have g1 : (a : Int) < (mp : Int) := by omega
        have g2 : (a : Int) + 1 = (a1 : Int) := by omega
        have g2w : IntKind.i64.wrap (a1 : Int) = (a1 : Int) := by rw [IntKind.wrap_i64]; omega
        have ab : (a1 : Int) ≤ 1000000000 := by omega
        simp only [← ha1]
        simp only [List.getElem?_cons_zero, List.getElem?_cons_succ] at k0 k1
        have d4 : decide (j < lo) = true := decide_eq_true (by omega)
        have d4' : decide ((j : Int) < (lo : Int)) = true := decide_eq_true (by omega)
        have HB := hideIt hB
        have OA := hideIt oA
        clear ih hlt hk hh hxx ham rx ry rp rz x5 y5 p5 z5 hmx hmy hx0 hcx hcz hj hin hpl hpz ht e em hmp hcp hcq hbu nu hbv nv hmu hmv hu hv hB oA ha1 hB1 hB2
        go_enter Try.func27, Try.ntmps27
        go_wp2_with fail
        go_region_held (fun W => W.cell? ⟨bp, op + a, none⟩ = some (.slice ao mu cu) ∧ W.cell? ⟨bq, oq + a, none⟩ = some (.slice ao' mv cu')) (go_keep) (first | fail)
        go_wp2
        exact bodyPost_ret (results_c4 rfl _ _ w.heap.size 42 _ (0, 0) _ rfl HB.out Try.underlying42 rfl Try.sizePair) rfl ⟨_, _, _, _, rfl, PK.none _, F0.out _ OA.out.drew⟩
      · skip
        obtain ⟨t, ht⟩ : ∃ t, t = i + mx := ⟨_, rfl⟩
        have e2 : (i : Int) + (mx : Int) = (t : Int) := by omega
        have e3 : (t : Int) - 1 = (j : Int) := by omega
        have tb : (t : Int) ≤ 1000000000 := by omega
        have jb : (j : Int) ≤ 1000000000 := by omega
        have hxb : (x0 : Int) ≤ 1000000000 := by omega
        have hlb : (lo : Int) ≤ 1000000000 := by omega
        have hhb : (hi : Int) ≤ 1000000000 := by omega
        have e : CLS (k + 1 + 1) lo hi i x y p z a = (none, p.getD a [], z.getD a [], a + 1) := by rw [CLS, if_pos (by omega)]
        rw [e]
        have em : MNY (k + 1 + 1) lo hi i j = 1 := by rw [MNY, if_neg (by omega), if_pos (by omega)]
        rw [em] at ham
        obtain ⟨mp, hmp⟩ : ∃ mp, p.length = mp := ⟨_, rfl⟩
        rw [hmp] at hpz
        obtain ⟨bp, op, cp, rfl, hcp⟩ := rp.form hmp (by omega)
        obtain ⟨bq, oq, cq, rfl, hcq⟩ := rz.form hpz (by omega)
        obtain ⟨u, hu, hbu, nu⟩ := rp.at a (by omega)
        obtain ⟨v, hv, hbv, nv⟩ := rz.at a (by omega)
        have oA : Only (fun _ => False) w (w.alloc (.cells #[.slice none 0 0, .slice none 0 0] 42)) := (Only.refl _ _).alloc _
        have hB : Blk (w.alloc (.cells #[.slice none 0 0, .slice none 0 0] 42)) w.heap.size 42 [.slice none 0 0, .slice none 0 0] := Blk.new w 42 [.slice none 0 0, .slice none 0 0]
        have F0 := hideIt (fun (W : World) (o : Only (fun _ => False) w W) => And.intro (hbu.past o) (And.intro nu (And.intro (hbv.past o) (And.intro nv o))))
        obtain ⟨ao, cu, rfl⟩ := hbu.len
        obtain ⟨ao', cu', rfl⟩ := hbv.len
        obtain ⟨mu, hmu⟩ : ∃ mu, mu = (p.getD a []).length := ⟨_, rfl⟩
        obtain ⟨mv, hmv⟩ : ∃ mv, mv = (z.getD a []).length := ⟨_, rfl⟩
        rw [← hmu, ← hmv] at F0
        rw [← hmu] at hu
        rw [← hmv] at hv
        have ku := cell_past hu oA
        have kv := cell_past hv oA
        have k0 := hB.cell 0
        have k1 := hB.cell 1
        have f0 := hB.froz 0
        have f1 := hB.froz 1
        have nb1 : ¬ bp = w.heap.size := by have : bp < w.heap.size := World.block_lt_of_cell? w _ hu; omega
        have nb2 : ¬ bq = w.heap.size := by have : bq < w.heap.size := World.block_lt_of_cell? w _ hv; omega
        obtain ⟨a1, ha1⟩ : ∃ a1, a1 = a + 1 := ⟨_, rfl⟩
        have g0 : (0 : Int) ≤ (a : Int) := by omega
        have g1 : (a : Int) < (mp : Int) := by omega
        have g2 : (a : Int) + 1 = (a1 : Int) := by omega
        have g2w : IntKind.i64.wrap (a1 : Int) = (a1 : Int) := by rw [IntKind.wrap_i64]; omega
        have ab : (a1 : Int) ≤ 1000000000 := by omega
        simp only [← ha1]
        simp only [List.getElem?_cons_zero, List.getElem?_cons_succ] at k0 k1
        have d4 : decide (j < lo) = false := decide_eq_false (by omega)
        have d4' : decide ((j : Int) < (lo : Int)) = false := decide_eq_false (by omega)
        have d3 : decide (x0 < i) = true := decide_eq_true (by omega)
        have d3' : decide ((x0 : Int) < (i : Int)) = true := decide_eq_true (by omega)
        have HB := hideIt hB
        have OA := hideIt oA
        clear ih hlt hk hh hxx ham rx ry rp rz x5 y5 p5 z5 hmx hmy hx0 hcx hcz hj hin hpl hpz ht e em hmp hcp hcq hbu nu hbv nv hmu hmv hu hv hB oA ha1 hB1 hB2
        go_enter Try.func27, Try.ntmps27
        go_wp2_with fail
        go_region_held (fun W => W.cell? ⟨bp, op + a, none⟩ = some (.slice ao mu cu) ∧ W.cell? ⟨bq, oq + a, none⟩ = some (.slice ao' mv cu')) (go_keep) (first | fail)
        go_wp2
        exact bodyPost_ret (results_c4 rfl _ _ w.heap.size 42 _ (0, 0) _ rfl HB.out Try.underlying42 rfl Try.sizePair) rfl ⟨_, _, _, _, rfl, PK.none _, F0.out _ OA.out.drew⟩
    · by_cases h1 : hi - lo = 1
      · skip
        obtain ⟨t, ht⟩ : ∃ t, t = i + mx := ⟨_, rfl⟩
        have e2 : (i : Int) + (mx : Int) = (t : Int) := by omega
        have e3 : (t : Int) - 1 = (j : Int) := by omega
        have tb : (t : Int) ≤ 1000000000 := by omega
        have jb : (j : Int) ≤ 1000000000 := by omega
        have hxb : (x0 : Int) ≤ 1000000000 := by omega
        have hlb : (lo : Int) ≤ 1000000000 := by omega
        have hhb : (hi : Int) ≤ 1000000000 := by omega
        have e : CLS (k + 1 + 1) lo hi i x y p z a = (none, x.getD (lo - i) [], y.getD (lo - i) [], a) := by rw [CLS, if_neg (by omega), if_pos h1]
        rw [e]
        obtain ⟨s, hs⟩ : ∃ s, s = lo - i := ⟨_, rfl⟩
        simp only [← hs]
        obtain ⟨u, hu, hbu, nu⟩ := rx.at s (by omega)
        obtain ⟨v, hv, hbv, nv⟩ := ry.at s (by omega)
        have oA : Only (fun _ => False) w (w.alloc (.cells #[.slice none 0 0, .slice none 0 0] 42)) := (Only.refl _ _).alloc _
        have hB : Blk (w.alloc (.cells #[.slice none 0 0, .slice none 0 0] 42)) w.heap.size 42 [.slice none 0 0, .slice none 0 0] := Blk.new w 42 [.slice none 0 0, .slice none 0 0]
        have F0 := hideIt (fun (W : World) (o : Only (fun _ => False) w W) => And.intro (hbu.past o) (And.intro nu (And.intro (hbv.past o) (And.intro nv o))))
        obtain ⟨ao, cu, rfl⟩ := hbu.len
        obtain ⟨ao', cu', rfl⟩ := hbv.len
        obtain ⟨mu, hmu⟩ : ∃ mu, mu = (x.getD s []).length := ⟨_, rfl⟩
        obtain ⟨mv, hmv⟩ : ∃ mv, mv = (y.getD s []).length := ⟨_, rfl⟩
        rw [← hmu, ← hmv] at F0
        rw [← hmu] at hu
        rw [← hmv] at hv
        have ku := cell_past hu oA
        have kv := cell_past hv oA
        have k0 := hB.cell 0
        have k1 := hB.cell 1
        have f0 := hB.froz 0
        have f1 := hB.froz 1
        have nb1 : ¬ bx = w.heap.size := by have : bx < w.heap.size := World.block_lt_of_cell? w _ hu; omega
        have nb2 : ¬ bz = w.heap.size := by have : bz < w.heap.size := World.block_lt_of_cell? w _ hv; omega
        have g0 : (0 : Int) ≤ (s : Int) := by omega
        have g1 : (s : Int) < (mx : Int) := by omega
        have g2 : (lo : Int) - (i : Int) = (s : Int) := by omega
        have g2w : IntKind.i64.wrap (s : Int) = (s : Int) := by rw [IntKind.wrap_i64]; omega
        have sb : (s : Int) ≤ 1000000000 := by omega
        have g4 : (hi : Int) - (lo : Int) = 1 := by omega
        simp only [List.getElem?_cons_zero, List.getElem?_cons_succ] at k0 k1
        obtain ⟨lp, cp, rfl, _⟩ := rp.len
        obtain ⟨lz, cz', rfl, _⟩ := rz.len
        obtain ⟨mp, hmp⟩ : ∃ mp, mp = p.length := ⟨_, rfl⟩
        obtain ⟨mz, hmz⟩ : ∃ mz, mz = z.length := ⟨_, rfl⟩
        rw [← hmp, ← hmz]
        have d4 : decide (j < lo) = false := decide_eq_false (by omega)
        have d4' : decide ((j : Int) < (lo : Int)) = false := decide_eq_false (by omega)
        have d3 : decide (x0 < i) = false := decide_eq_false (by omega)
        have d3' : decide ((x0 : Int) < (i : Int)) = false := decide_eq_false (by omega)
        have HB := hideIt hB
        have OA := hideIt oA
        clear ih hlt hk hh hxx ham rx ry rp rz x5 y5 p5 z5 hmx hmy hx0 hcx hcz hj hin hpl hpz ht e hmp hmz hbu nu hbv nv hmu hmv hu hv hB oA hs hB2 h1
        go_enter Try.func27, Try.ntmps27
        go_wp2_with fail
        go_region_held (fun W => W.cell? ⟨bx, ox + s, none⟩ = some (.slice ao mu cu) ∧ W.cell? ⟨bz, oz + s, none⟩ = some (.slice ao' mv cu')) (go_keep) (first | fail)
        go_wp2
        exact bodyPost_ret (results_c4 rfl _ _ w.heap.size 42 _ (0, 0) _ rfl HB.out Try.underlying42 rfl Try.sizePair) rfl ⟨_, _, _, _, rfl, PK.none _, F0.out _ OA.out.drew⟩
      · skip
        obtain ⟨t, ht⟩ : ∃ t, t = i + mx := ⟨_, rfl⟩
        have e2 : (i : Int) + (mx : Int) = (t : Int) := by omega
        have e3 : (t : Int) - 1 = (j : Int) := by omega
        have tb : (t : Int) ≤ 1000000000 := by omega
        have jb : (j : Int) ≤ 1000000000 := by omega
        have hxb : (x0 : Int) ≤ 1000000000 := by omega
        have hlb : (lo : Int) ≤ 1000000000 := by omega
        have hhb : (hi : Int) ≤ 1000000000 := by omega
        obtain ⟨n, hn⟩ : ∃ n, n = hi - lo := ⟨_, rfl⟩
        obtain ⟨q, hq⟩ : ∃ q, q = HALF n := ⟨_, rfl⟩
        have q1 := HALF_pos n
        have q2 := HALF_lt (n := n) (by omega)
        rw [← hq] at q1 q2
        obtain ⟨m, hm⟩ : ∃ m, m = lo + q := ⟨_, rfl⟩
        have es : (hi : Int) - (lo : Int) = (n : Int) := by omega
        have em : (lo : Int) + (q : Int) = (m : Int) := by omega
        have AL := hideIt (fun (W : World) => rhalf_any n (by omega) W)
        rw [← hq] at AL
        obtain ⟨L, hL⟩ : ∃ L, L = CLS (k + 1) lo m i x y p z a := ⟨_, rfl⟩
        obtain ⟨R, hR⟩ : ∃ R, R = CLS (k + 1) m hi i x y p z L.2.2.2 := ⟨_, rfl⟩
        have e := CLS_step (f := k + 1) (x := x) (y := y) (p := p) (q := z) (a := a) (L := L) (R := R) (show ¬ (i + x.length ≤ lo ∨ hi ≤ i) by omega) h1 (by rw [← hn, ← hq, ← hm]; exact hL) (by rw [← hn, ← hq, ← hm]; exact hR)
        rw [e]
        have us := CLS_used (k + 1) lo m i x y p z a (by omega) (by omega) (by omega)
        rw [← hL, hmx, ← hj] at us
        have em : MNY (k + 1) lo m i j + MNY (k + 1) m hi i j + a ≤ p.length := by
          by_cases hA : i ≤ lo ∧ hi ≤ j + 1
          · have z1 : MNY (k + 1) lo m i j = 0 := by rw [MNY, if_pos (by omega)]
            have z2 : MNY (k + 1) m hi i j = 0 := by rw [MNY, if_pos (by omega)]
            omega
          · have : MNY (k + 1 + 1) lo hi i j = MNY (k + 1) lo m i j + MNY (k + 1) m hi i j := by rw [MNY, if_neg hA, if_neg (by omega), hm, hq, hn]
            omega
        have tL := CLS_tops (k + 1) lo m i x y p z a (by omega)
        have tR := CLS_tops (k + 1) m hi i x y p z L.2.2.2 (by omega)
        rw [← hL] at tL
        rw [← hR] at tR
        have gA1 := MAD_r5 (k + 1) lo m i x (p.drop a) x5 (p5.drop _)
        have gA2 := MAD_r5 (k + 1) lo m i y (z.drop a) y5 (z5.drop _)
        have gE1 := MAD_r5 (k + 1) m hi i x (p.drop L.2.2.2) x5 (p5.drop _)
        have gE2 := MAD_r5 (k + 1) m hi i y (z.drop L.2.2.2) y5 (z5.drop _)
        rw [← tL.1] at gA1
        rw [← tL.2.1] at gA2
        rw [← tR.1] at gE1
        rw [← tR.2.1] at gE2
        have oA : Only (fun _ => False) w (w.alloc (.cells #[.slice none 0 0, .slice none 0 0] 42)) := (Only.refl _ _).alloc _
        have T1 := hideIt (ih lo m a (w.alloc (.cells #[.slice none 0 0, .slice none 0 0] 42)) (by omega) (by omega) (by omega) (by omega) (rx.past oA) (ry.past oA) (rp.past oA) (rz.past oA))
        have T2 := hideIt (fun (W : World) (o : Only (fun _ => False) w W) => ih m hi L.2.2.2 W (by omega) (by omega) (by omega) (by omega) (rx.past o) (ry.past o) (rp.past o) (rz.past o))
        rw [← hL] at T1
        rw [← hR] at T2
        obtain ⟨L1, A1, A2, aL⟩ := L
        obtain ⟨R1, E1, E2, aR⟩ := R
        simp only at T1 T2 gA1 gA2 gE1 gE2 us ⊢
        have N1 := hideIt (fun (W : World) (vl vr : Value) (hb : Bs .u8 W vl A1) (nb : NoCap vl) (hr : Bs .u8 W vr E1) (nr : NoCap vr) => rnode20_any vl vr A1 E1 W hb nb hr nr gA1.1 gE1.1 gA1.2 gE1.2)
        have N2 := hideIt (fun (W : World) (vl vr : Value) (hb : Bs .u8 W vl A2) (nb : NoCap vl) (hr : Bs .u8 W vr E2) (nr : NoCap vr) => rnode20_any vl vr A2 E2 W hb nb hr nr gA2.1 gE2.1 gA2.2 gE2.2)
        have LB : Hid (A1.length ≤ 100000 ∧ A2.length ≤ 100000 ∧ E1.length ≤ 100000 ∧ E2.length ≤ 100000) := ⟨gA1.2, gA2.2, gE1.2, gE2.2⟩
        obtain ⟨F1, hF1⟩ : ∃ F1, F1 = L1.isSome := ⟨_, rfl⟩
        obtain ⟨F2, hF2⟩ : ∃ F2, F2 = R1.isSome := ⟨_, rfl⟩
        rw [← hF1] at T1
        rw [← hF2] at T2
        have HF := hideIt (And.intro hF1 hF2)
        obtain ⟨lp, cp, rfl, _⟩ := rp.len
        obtain ⟨lz, cz', rfl, _⟩ := rz.len
        obtain ⟨mp, hmp⟩ : ∃ mp, mp = p.length := ⟨_, rfl⟩
        obtain ⟨mz, hmz⟩ : ∃ mz, mz = z.length := ⟨_, rfl⟩
        rw [← hmp, ← hmz] at T1 T2 ⊢
        have d9 : ((n : Int) == 1) = false := by rw [beq_eq_false_iff_ne]; omega
        have OA := hideIt oA
        have HB := hideIt (Blk.new w 42 [.slice none 0 0, .slice none 0 0])
        have aLb : (aL : Int) ≤ 1000000000 := by omega
        have hqb : (q : Int) ≤ 1000000000 := by omega
        have hmb : (m : Int) ≤ 1000000000 := by omega
        have hnb : (n : Int) ≤ 1000000000 := by omega
        have d4 : decide (j < lo) = false := decide_eq_false (by omega)
        have d4' : decide ((j : Int) < (lo : Int)) = false := decide_eq_false (by omega)
        have d3 : decide (x0 < i) = false := decide_eq_false (by omega)
        have d3' : decide ((x0 : Int) < (i : Int)) = false := decide_eq_false (by omega)
        clear ih hlt hk hh hxx ham rx ry rp rz x5 y5 p5 z5 hmx hmy hx0 hcx hcz hj hin hpl hpz ht e us em tL tR gA1 gA2 gE1 gE2 hL hR oA hF1 hF2 hmp hmz hB2 h1 hn hq hm q1 q2
        go_enter Try.func27, Try.ntmps27
        go_wp2_with fail
        refine (AL.out _).mono ?_
        rintro e w1 ⟨rfl, rfl⟩
        clear AL
        go_wp2_with fail
        refine T1.out.mono ?_
        rintro e w1 ⟨ca1, cb1, v1, u1, rfl, r1, r2, r3, r4, r5, o1⟩
        clear T1
        have K1 := hideIt (And.intro r1 (And.intro r2 (And.intro r3 (And.intro r4 r5))))
        have O1 := hideIt (OA.out.same o1)
        have HW1 := hideIt O1.out.size
        have HB1 := hideIt (HB.out.past o1)
        obtain ⟨⟨xa, xl, xc, rfl⟩, ⟨ya, yl, yc, rfl⟩⟩ := r1.form
        obtain ⟨av1, cv1, rfl⟩ := r2.len
        obtain ⟨au1, cu1, rfl⟩ := r4.len
        obtain ⟨l1, hl1⟩ : ∃ l1, l1 = A1.length := ⟨_, rfl⟩
        obtain ⟨l2, hl2⟩ : ∃ l2, l2 = A2.length := ⟨_, rfl⟩
        rw [← hl1, ← hl2] at K1 ⊢
        clear r1 r2 r3 r4 r5 o1 hl1 hl2 HB OA
        go_wp2_with fail
        refine (T2.out _ (O1.out.alloc _)).mono ?_
        rintro e w2 ⟨ca2, cb2, v2, u2, rfl, r1, r2, r3, r4, r5, o2⟩
        clear T2
        have oA1 : Only (fun _ => False) w1 (w1.alloc (.cells #[.slice xa xl xc, .slice ya yl yc] 42)) := (Only.refl _ _).alloc _
        have oA2 : Only (fun _ => False) w2 (w2.alloc (.cells #[ca2, cb2] 42)) := (Only.refl _ _).alloc _
        have o13 : Only (fun _ => False) w1 (w2.alloc (.cells #[ca2, cb2] 42)) := (oA1.same o2).same oA2
        have KK := hideIt (And.intro (And.intro (K1.out.1.past o13) (r1.past oA2)) (And.intro (And.intro (K1.out.2.1.past o13) (And.intro (K1.out.2.2.2.1.past o13) (And.intro (r2.past oA2) (r4.past oA2)))) (And.intro (HB1.out.past o13) (O1.out.same o13))))
        have KB := hideIt (And.intro (((Blk.new w1 42 [.slice xa xl xc, .slice ya yl yc]).past o2).past oA2) (Blk.new w2 42 [ca2, cb2]))
        have NC := hideIt (And.intro K1.out.2.2.1 (And.intro K1.out.2.2.2.2 (And.intro r3 r5)))
        have hne1 : ¬ w1.heap.size = w.heap.size := by have : w.heap.size < w1.heap.size := HB1.out.lt; omega
        have hne2 : ¬ w2.heap.size = w1.heap.size := by have h := o2.size; rw [size_alloc] at h; omega
        obtain ⟨⟨xa2, xl2, xc2, rfl⟩, ⟨ya2, yl2, yc2, rfl⟩⟩ := r1.form
        obtain ⟨av2, cv2, rfl⟩ := r2.len
        obtain ⟨au2, cu2, rfl⟩ := r4.len
        obtain ⟨l3, hl3⟩ : ∃ l3, l3 = E1.length := ⟨_, rfl⟩
        obtain ⟨l4, hl4⟩ : ∃ l4, l4 = E2.length := ⟨_, rfl⟩
        rw [← hl3, ← hl4] at KK NC ⊢
        clear r1 r2 r3 r4 r5 o2 hl3 hl4 HB1 O1 K1 oA1 oA2 o13
        go_upto_if 115 with (fail)
        obtain ⟨F, hF⟩ : ∃ F, F = (OR2 L1 R1).isSome := ⟨_, rfl⟩
        have HFF := hideIt hF
        clear hF
        go_cut [24] from 35 (fun s24 W => s24 = .bool F ∧ Hid (∃ ca cb, Blk W w1.heap.size 42 [ca, cb] ∧ PK W ca cb (OR2 L1 R1) ∧ (Bs .u8 W (.slice av1 l1 cv1) A1 ∧ Bs .u8 W (.slice au1 l2 cu1) A2 ∧ Bs .u8 W (.slice av2 l3 cv2) E1 ∧ Bs .u8 W (.slice au2 l4 cu2) E2) ∧ Blk W w.heap.size 42 [.slice none 0 0, .slice none 0 0] ∧ Only (fun _ => False) w W))
        case first =>
          cases F1 with
          | true =>
            have eF : Hid (F = true ∧ OR2 L1 R1 = L1) := by
              have h := HF.out.1
              cases L1 with
              | none => cases h
              | some c => exact ⟨HFF.out, rfl⟩
            have CTf : Hid (∃ ca cb, Blk (w2.alloc (.cells #[.slice xa2 xl2 xc2, .slice ya2 yl2 yc2] 42)) w1.heap.size 42 [ca, cb] ∧ PK (w2.alloc (.cells #[.slice xa2 xl2 xc2, .slice ya2 yl2 yc2] 42)) ca cb (OR2 L1 R1) ∧ (Bs .u8 (w2.alloc (.cells #[.slice xa2 xl2 xc2, .slice ya2 yl2 yc2] 42)) (.slice av1 l1 cv1) A1 ∧ Bs .u8 (w2.alloc (.cells #[.slice xa2 xl2 xc2, .slice ya2 yl2 yc2] 42)) (.slice au1 l2 cu1) A2 ∧ Bs .u8 (w2.alloc (.cells #[.slice xa2 xl2 xc2, .slice ya2 yl2 yc2] 42)) (.slice av2 l3 cv2) E1 ∧ Bs .u8 (w2.alloc (.cells #[.slice xa2 xl2 xc2, .slice ya2 yl2 yc2] 42)) (.slice au2 l4 cu2) E2) ∧ Blk (w2.alloc (.cells #[.slice xa2 xl2 xc2, .slice ya2 yl2 yc2] 42)) w.heap.size 42 [.slice none 0 0, .slice none 0 0] ∧ Only (fun _ => False) w (w2.alloc (.cells #[.slice xa2 xl2 xc2, .slice ya2 yl2 yc2] 42))) := ⟨_, _, KB.out.1, by rw [eF.out.2]; exact KK.out.1.1, KK.out.2⟩
            go_wp2
            go_meet
            case rel => exact ⟨by rw [eF.out.1], CTf⟩
          | false =>
            have eF : Hid (F = F2 ∧ OR2 L1 R1 = R1) := by
              have h := HF.out.1
              cases L1 with
              | some c => cases h
              | none => exact ⟨by rw [HFF.out, HF.out.2]; rfl, rfl⟩
            have k0 := KB.out.1.cell 0
            have k1 := KB.out.1.cell 1
            have f0 := KB.out.1.froz 0
            have f1 := KB.out.1.froz 1
            have k2 := KB.out.2.cell 0
            have k3 := KB.out.2.cell 1
            simp only [List.getElem?_cons_zero, List.getElem?_cons_succ] at k0 k1 k2 k3
            have oS := set2_only (w2.alloc (.cells #[.slice xa2 xl2 xc2, .slice ya2 yl2 yc2] 42)) w1.heap.size (.slice xa2 xl2 xc2) (.slice ya2 yl2 yc2)
            have CTf : Hid (∃ ca cb, Blk (((w2.alloc (.cells #[.slice xa2 xl2 xc2, .slice ya2 yl2 yc2] 42)).setCell ⟨w1.heap.size, 0, none⟩ (.slice xa2 xl2 xc2)).setCell ⟨w1.heap.size, 1, none⟩ (.slice ya2 yl2 yc2)) w1.heap.size 42 [ca, cb] ∧ PK (((w2.alloc (.cells #[.slice xa2 xl2 xc2, .slice ya2 yl2 yc2] 42)).setCell ⟨w1.heap.size, 0, none⟩ (.slice xa2 xl2 xc2)).setCell ⟨w1.heap.size, 1, none⟩ (.slice ya2 yl2 yc2)) ca cb (OR2 L1 R1) ∧ (Bs .u8 (((w2.alloc (.cells #[.slice xa2 xl2 xc2, .slice ya2 yl2 yc2] 42)).setCell ⟨w1.heap.size, 0, none⟩ (.slice xa2 xl2 xc2)).setCell ⟨w1.heap.size, 1, none⟩ (.slice ya2 yl2 yc2)) (.slice av1 l1 cv1) A1 ∧ Bs .u8 (((w2.alloc (.cells #[.slice xa2 xl2 xc2, .slice ya2 yl2 yc2] 42)).setCell ⟨w1.heap.size, 0, none⟩ (.slice xa2 xl2 xc2)).setCell ⟨w1.heap.size, 1, none⟩ (.slice ya2 yl2 yc2)) (.slice au1 l2 cu1) A2 ∧ Bs .u8 (((w2.alloc (.cells #[.slice xa2 xl2 xc2, .slice ya2 yl2 yc2] 42)).setCell ⟨w1.heap.size, 0, none⟩ (.slice xa2 xl2 xc2)).setCell ⟨w1.heap.size, 1, none⟩ (.slice ya2 yl2 yc2)) (.slice av2 l3 cv2) E1 ∧ Bs .u8 (((w2.alloc (.cells #[.slice xa2 xl2 xc2, .slice ya2 yl2 yc2] 42)).setCell ⟨w1.heap.size, 0, none⟩ (.slice xa2 xl2 xc2)).setCell ⟨w1.heap.size, 1, none⟩ (.slice ya2 yl2 yc2)) (.slice au2 l4 cu2) E2) ∧ Blk (((w2.alloc (.cells #[.slice xa2 xl2 xc2, .slice ya2 yl2 yc2] 42)).setCell ⟨w1.heap.size, 0, none⟩ (.slice xa2 xl2 xc2)).setCell ⟨w1.heap.size, 1, none⟩ (.slice ya2 yl2 yc2)) w.heap.size 42 [.slice none 0 0, .slice none 0 0] ∧ Only (fun _ => False) w (((w2.alloc (.cells #[.slice xa2 xl2 xc2, .slice ya2 yl2 yc2] 42)).setCell ⟨w1.heap.size, 0, none⟩ (.slice xa2 xl2 xc2)).setCell ⟨w1.heap.size, 1, none⟩ (.slice ya2 yl2 yc2))) := ⟨_, _, set2_blk KB.out.1 _ _, by rw [eF.out.2]; exact KK.out.1.2.keepR KB.out.1 (two_rows ⟨⟨_, _, _, rfl⟩, ⟨_, _, _, rfl⟩⟩) oS, ⟨KK.out.2.1.1.keepR KB.out.1 (two_rows ⟨⟨_, _, _, rfl⟩, ⟨_, _, _, rfl⟩⟩) oS, KK.out.2.1.2.1.keepR KB.out.1 (two_rows ⟨⟨_, _, _, rfl⟩, ⟨_, _, _, rfl⟩⟩) oS, KK.out.2.1.2.2.1.keepR KB.out.1 (two_rows ⟨⟨_, _, _, rfl⟩, ⟨_, _, _, rfl⟩⟩) oS, KK.out.2.1.2.2.2.keepR KB.out.1 (two_rows ⟨⟨_, _, _, rfl⟩, ⟨_, _, _, rfl⟩⟩) oS⟩, KK.out.2.2.1.keep oS (fun e => hne1 e.symm), KK.out.2.2.2.trans oS (fun i hi e => by have := KK.out.2.2.2.size; have := KK.out.2.2.1.lt; have : w.heap.size ≤ w1.heap.size := HW1.out; omega)⟩
            clear oS
            go_wp2
            go_meet
            case rel => exact ⟨by rw [eF.out.1], CTf⟩
        case rest =>
          obtain ⟨rfl, hct⟩ := hcut
          obtain ⟨ca, cb, kb, kpk, kbs, kr, ko⟩ := hct.out
          obtain ⟨⟨ga, gl, gc, rfl⟩, ⟨ha, hl', hc', rfl⟩⟩ := kpk.form
          have CR := hideIt (And.intro kb (And.intro kr (And.intro kpk (And.intro kbs ko))))
          obtain ⟨i0, hi0, hz0, hz1, hz2⟩ := info_parts Try.infoU8
          clear hct kb kpk kbs kr ko KK KB HF
          have oB1 : Only (fun _ => False) wc (wc.alloc (.cells #[.int .u8 1] 5)) := (Only.refl _ _).alloc _
          have OW1 := hideIt (own_lit wc 5 (bl [1]) (Nat.le_refl _) (show 1 ≤ maxLen by unfold maxLen; decide))
          have X1 := hideIt (And.intro (CR.out.2.2.2.1.1.past ((Only.refl (fun _ => False) wc).same oB1)) NC.out.1)
          have p1 : Hid (1 + A1.length ≤ maxLen ∧ (1 + A1.length) * 1 ≤ 140737488355328 ∧ 1 + A1.length + E1.length ≤ maxLen ∧ (1 + A1.length + E1.length) * 1 ≤ 140737488355328) := by have := LB.out; show _ ∧ _; unfold maxLen; omega
          have Z1 : Hid (wc.heap.size ≤ (wc.alloc (.cells #[.int .u8 1] 5)).heap.size) := oB1.size
          have OB1 := hideIt oB1
          clear oB1
          go_wp2_with (at_builtin; refine wpList_append_bs _ rfl _ _ 22 rfl wc.heap.size 5 i0 (.int .u8 0) 1 Try.underlying22 hi0 hz0 hz1 hz2 rfl (.slice (some ⟨wc.heap.size, 0, none⟩) 1 1) 1 (bl [1]) rfl OW1.out .u8 _ A1 rfl X1.out.1 X1.out.2 p1.out.1 p1.out.2.1 Z1.out ?_)
          intro va1 wea own g1 _ _
          have OC1 := hideIt (OB1.out.grown g1 (fun k hk e => by simp [Value.ownBlock] at e; omega))
          have own2 : wea.ownsRow wc.heap.size 5 1 va1 (1 + A1.length) (bl (1 :: A1)) := own
          have OW1' := hideIt own2
          have Y1 := hideIt (And.intro (CR.out.2.2.2.1.2.2.1.past ((Only.refl (fun _ => False) wc).same OC1.out)) NC.out.2.2.1)
          have Z1' := hideIt OC1.out.size
          obtain ⟨ab1, cb1, eb⟩ := own_form own2
          subst eb
          obtain ⟨mb1, hmb1⟩ : ∃ mb, mb = 1 + A1.length := ⟨_, rfl⟩
          rw [← hmb1] at OW1' p1 ⊢
          have HM1 := hideIt hmb1
          clear own own2 g1 OW1 X1 Z1 OB1 hmb1
          go_wp2_with (at_builtin; refine wpList_append_bs _ rfl _ _ 22 rfl wc.heap.size 5 i0 (.int .u8 0) 1 Try.underlying22 hi0 hz0 hz1 hz2 rfl (.slice ab1 mb1 cb1) mb1 (bl (1 :: A1)) rfl OW1'.out .u8 _ E1 rfl Y1.out.1 Y1.out.2 p1.out.2.2.1 p1.out.2.2.2 Z1'.out ?_)
          intro vb1 we own g2 _ _
          have OD1 := hideIt (OC1.out.grown g2 (fun k hk e => absurd (OW1'.out.lt k e).1 (by omega)))
          have b5 : Bs .u8 we vb1 (1 :: (A1 ++ E1)) := Bs.of_own (k := .u8) (E := 5) (lo := wc.heap.size) (by
            have e : (1 :: (A1 ++ E1) : List Int).length = mb1 + E1.length := by rw [List.length_cons, List.length_append, HM1.out]; omega
            rw [e]
            have e2 : bl (1 :: A1) ++ E1.map (Value.int .u8) = (1 :: (A1 ++ E1) : List Int).map (Value.int .u8) := by simp [bl]
            rw [← e2]; exact own)
          have ONE := hideIt (And.intro b5 (NoCap.of_own own))
          obtain ⟨ac1, cc1, ec⟩ := own_form own
          subst ec
          obtain ⟨mc1, hmc1⟩ : ∃ mc, mc = mb1 + E1.length := ⟨_, rfl⟩
          rw [← hmc1] at ONE ⊢
          clear own g2 b5 OW1' Y1 Z1' OC1 HM1 p1 hmc1
          have oB2 : Only (fun _ => False) we (we.alloc (.cells #[.int .u8 1] 5)) := (Only.refl _ _).alloc _
          have OW2 := hideIt (own_lit we 5 (bl [1]) (Nat.le_refl _) (show 1 ≤ maxLen by unfold maxLen; decide))
          have X2 := hideIt (And.intro (CR.out.2.2.2.1.2.1.past (OD1.out.same oB2)) NC.out.2.1)
          have p2 : Hid (1 + A2.length ≤ maxLen ∧ (1 + A2.length) * 1 ≤ 140737488355328 ∧ 1 + A2.length + E2.length ≤ maxLen ∧ (1 + A2.length + E2.length) * 1 ≤ 140737488355328) := by have := LB.out; show _ ∧ _; unfold maxLen; omega
          have Z2 : Hid (we.heap.size ≤ (we.alloc (.cells #[.int .u8 1] 5)).heap.size) := oB2.size
          have OB2 := hideIt oB2
          clear oB2
          go_wp2_with (at_builtin; refine wpList_append_bs _ rfl _ _ 22 rfl we.heap.size 5 i0 (.int .u8 0) 1 Try.underlying22 hi0 hz0 hz1 hz2 rfl (.slice (some ⟨we.heap.size, 0, none⟩) 1 1) 1 (bl [1]) rfl OW2.out .u8 _ A2 rfl X2.out.1 X2.out.2 p2.out.1 p2.out.2.1 Z2.out ?_)
          intro va2 wga own g1 _ _
          have OC2 := hideIt (OB2.out.grown g1 (fun k hk e => by simp [Value.ownBlock] at e; omega))
          have own2 : wga.ownsRow we.heap.size 5 1 va2 (1 + A2.length) (bl (1 :: A2)) := own
          have OW2' := hideIt own2
          have Y2 := hideIt (And.intro (CR.out.2.2.2.1.2.2.2.past (OD1.out.same OC2.out)) NC.out.2.2.2)
          have Z2' := hideIt OC2.out.size
          obtain ⟨ab2, cb2, eb⟩ := own_form own2
          subst eb
          obtain ⟨mb2, hmb2⟩ : ∃ mb, mb = 1 + A2.length := ⟨_, rfl⟩
          rw [← hmb2] at OW2' p2 ⊢
          have HM2 := hideIt hmb2
          clear own own2 g1 OW2 X2 Z2 OB2 hmb2
          go_wp2_with (at_builtin; refine wpList_append_bs _ rfl _ _ 22 rfl we.heap.size 5 i0 (.int .u8 0) 1 Try.underlying22 hi0 hz0 hz1 hz2 rfl (.slice ab2 mb2 cb2) mb2 (bl (1 :: A2)) rfl OW2'.out .u8 _ E2 rfl Y2.out.1 Y2.out.2 p2.out.2.2.1 p2.out.2.2.2 Z2'.out ?_)
          intro vb2 wg own g2 _ _
          have OD2 := hideIt (OC2.out.grown g2 (fun k hk e => absurd (OW2'.out.lt k e).1 (by omega)))
          have b5 : Bs .u8 wg vb2 (1 :: (A2 ++ E2)) := Bs.of_own (k := .u8) (E := 5) (lo := we.heap.size) (by
            have e : (1 :: (A2 ++ E2) : List Int).length = mb2 + E2.length := by rw [List.length_cons, List.length_append, HM2.out]; omega
            rw [e]
            have e2 : bl (1 :: A2) ++ E2.map (Value.int .u8) = (1 :: (A2 ++ E2) : List Int).map (Value.int .u8) := by simp [bl]
            rw [← e2]; exact own)
          have TWO := hideIt (And.intro b5 (NoCap.of_own own))
          obtain ⟨ac2, cc2, ec⟩ := own_form own
          subst ec
          obtain ⟨mc2, hmc2⟩ : ∃ mc, mc = mb2 + E2.length := ⟨_, rfl⟩
          rw [← hmc2] at TWO ⊢
          clear own g2 b5 OW2' Y2 Z2' OC2 HM2 p2 hmc2
          have OG := hideIt (OD1.out.same OD2.out)
          have ON2 := hideIt (And.intro (ONE.out.1.past OD2.out) ONE.out.2)
          clear OD1 OD2 ONE
          cases F with
          | true =>
            have EQ2 : Hid (CL2 (OR2 L1 R1) A1 A2 E1 E2 = OR2 L1 R1) := by
              have h := HFF.out
              show _ = _
              cases hO : OR2 L1 R1 with
              | none => rw [hO] at h; cases h
              | some c => rfl
            have EQ : Hid ((CL2 (OR2 L1 R1) A1 A2 E1 E2).isSome = true) := by show _ = _; rw [EQ2.out]; exact HFF.out.symm
            have TTf : Hid (Blk wg w1.heap.size 42 [.slice ga gl gc, .slice ha hl' hc'] ∧ Blk wg w.heap.size 42 [.slice none 0 0, .slice none 0 0] ∧ PK wg (.slice ga gl gc) (.slice ha hl' hc') (CL2 (OR2 L1 R1) A1 A2 E1 E2) ∧ (Bs .u8 wg (.slice av1 l1 cv1) A1 ∧ Bs .u8 wg (.slice au1 l2 cu1) A2 ∧ Bs .u8 wg (.slice av2 l3 cv2) E1 ∧ Bs .u8 wg (.slice au2 l4 cu2) E2) ∧ Only (fun _ => False) w wg) := ⟨CR.out.1.past OG.out, CR.out.2.1.past OG.out, by rw [EQ2.out]; exact CR.out.2.2.1.past OG.out, ⟨CR.out.2.2.2.1.1.past OG.out, CR.out.2.2.2.1.2.1.past OG.out, CR.out.2.2.2.1.2.2.1.past OG.out, CR.out.2.2.2.1.2.2.2.past OG.out⟩, CR.out.2.2.2.2.same OG.out⟩
            clear CR OG ON2 TWO HFF EQ2
            have t0 := TTf.out.1.cell 0
            have t1 := TTf.out.1.cell 1
            simp only [List.getElem?_cons_zero, List.getElem?_cons_succ] at t0 t1
            go_wp2_with fail
            go_region_held (fun V => V.cell? ⟨w1.heap.size, 0, none⟩ = some (.slice ga gl gc) ∧ V.cell? ⟨w1.heap.size, 1, none⟩ = some (.slice ha hl' hc')) (first | go_keep | exact ⟨cell_keep z0 (set2_only _ _ _ _) hne1, cell_keep z1 (set2_only _ _ _ _) hne1⟩) (first | (go_at_call 15; refine (N1.out _ _ _ (TTf.out.2.2.2.1.1.past ((Only.refl _ _).drew)) NC.out.1 (TTf.out.2.2.2.1.2.2.1.past ((Only.refl _ _).drew)) NC.out.2.2.1).mono ?_; rintro e wy ⟨vy, rfl, owny, oy⟩; have OY := hideIt (((Only.refl (fun _ => False) wg).drew).same oy); have BY := hideIt (And.intro (own_bs owny) (NoCap.of_own owny)); have y0 := cell_past t0 OY.out; have y1 := cell_past t1 OY.out; obtain ⟨aoy, capy, ey⟩ := own_form owny; subst ey; clear owny oy N1) | (go_at_call 15; refine (N2.out _ _ _ (TTf.out.2.2.2.1.2.1.past OY.out) NC.out.2.1 (TTf.out.2.2.2.1.2.2.2.past OY.out) NC.out.2.2.2).mono ?_; rintro e wz ⟨vz', rfl, ownz, oz'⟩; have OZ := hideIt (OY.out.same oz'); have BZ := hideIt (And.intro (And.intro (BY.out.1.past oz') BY.out.2) (And.intro (own_bs ownz) (NoCap.of_own ownz))); have s0 := (TTf.out.2.1.past OZ.out).cell 0; have s1 := (TTf.out.2.1.past OZ.out).cell 1; have q0 := (TTf.out.2.1.past OZ.out).froz 0; have q1 := (TTf.out.2.1.past OZ.out).froz 1; simp only [List.getElem?_cons_zero, List.getElem?_cons_succ] at s0 s1; have z0 := cell_past t0 OZ.out; have z1 := cell_past t1 OZ.out; obtain ⟨aoz, capz, ez⟩ := own_form ownz; subst ez; clear ownz oz' N2))
            have oS := set2_only wz w.heap.size (.slice ga gl gc) (.slice ha hl' hc')
            have hBz := TTf.out.2.1.past OZ.out
            have hrs := two_rows (ca := .slice none 0 0) (cb := .slice none 0 0) ⟨⟨_, _, _, rfl⟩, ⟨_, _, _, rfl⟩⟩
            go_wp2
            refine bodyPost_ret (results_c4 rfl _ _ w.heap.size 42 _ (0, 0) _ rfl (set2_blk hBz (.slice ga gl gc) (.slice ha hl' hc')) Try.underlying42 rfl Try.sizePair) rfl ⟨.slice ga gl gc, .slice ha hl' hc', .slice aoy 32 capy, .slice aoz 32 capz, by rw [EQ.out]; rfl, (TTf.out.2.2.1.past OZ.out).keepR hBz hrs oS, BZ.out.1.1.keepR hBz hrs oS, BZ.out.1.2, BZ.out.2.1.keepR hBz hrs oS, BZ.out.2.2, (TTf.out.2.2.2.2.same OZ.out).trans oS (fun i hi e => by omega)⟩
          | false =>
            have HO : Hid (OR2 L1 R1 = none) := by
              have h := HFF.out
              show _ = _
              cases hO : OR2 L1 R1 with
              | none => rfl
              | some c => rw [hO] at h; cases h
            have M1 := hideIt (N1.out wg _ _ (CR.out.2.2.2.1.1.past OG.out) NC.out.1 (CR.out.2.2.2.1.2.2.1.past OG.out) NC.out.2.2.1)
            go_wp2_with fail
            refine M1.out.mono ?_
            rintro e w8 ⟨v8, rfl, own8, o8⟩
            have O8 := hideIt (OG.out.same o8)
            have B8 := hideIt (own_bs own8)
            have M2 := hideIt (N2.out w8 _ _ (CR.out.2.2.2.1.2.1.past O8.out) NC.out.2.1 (CR.out.2.2.2.1.2.2.2.past O8.out) NC.out.2.2.2)
            have OT8 := hideIt (And.intro (And.intro (ON2.out.1.past o8) ON2.out.2) (And.intro (TWO.out.1.past o8) TWO.out.2))
            obtain ⟨ao8, cap8, e8⟩ := own_form own8
            subst e8
            clear own8 o8 M1 OG ON2 TWO
            go_wp2_with fail
            refine M2.out.mono ?_
            rintro e w9 ⟨v9, rfl, own9, o9⟩
            have O9 := hideIt (O8.out.same o9)
            have M3 := hideIt (lsame20_any _ v9 (NODE A1 E1) (NODE A2 E2) w9 (B8.out.past o9) (own_bs own9) (by rw [NODE_len]; decide))
            have OT9 := hideIt (And.intro (And.intro (OT8.out.1.1.past o9) OT8.out.1.2) (And.intro (OT8.out.2.1.past o9) OT8.out.2.2))
            obtain ⟨ao9, cap9, e9⟩ := own_form own9
            subst e9
            obtain ⟨C1, hC1⟩ : ∃ C1, C1 = decide (NODE A1 E1 = NODE A2 E2) := ⟨_, rfl⟩
            rw [← hC1] at M3
            have HC1 := hideIt hC1
            clear own9 o9 M2 O8 B8 OT8 hC1
            go_wp2_with fail
            refine M3.out.mono ?_
            rintro e w10 ⟨rfl, o10⟩
            have O10 := hideIt (O9.out.same o10)
            have OT := hideIt (And.intro (And.intro (OT9.out.1.1.past o10) OT9.out.1.2) (And.intro (OT9.out.2.1.past o10) OT9.out.2.2))
            clear M3 o10 O9 OT9
            cases C1 with
            | false =>
              have EQ2 : Hid (CL2 (OR2 L1 R1) A1 A2 E1 E2 = OR2 L1 R1) := by
                show _ = _
                rw [HO.out]
                exact if_neg (fun h => of_decide_eq_false HC1.out.symm h.1)
              have EQ : Hid ((CL2 (OR2 L1 R1) A1 A2 E1 E2).isSome = false) := by show _ = _; rw [EQ2.out, HO.out]; rfl
              have TTf : Hid (Blk w10 w1.heap.size 42 [.slice ga gl gc, .slice ha hl' hc'] ∧ Blk w10 w.heap.size 42 [.slice none 0 0, .slice none 0 0] ∧ PK w10 (.slice ga gl gc) (.slice ha hl' hc') (CL2 (OR2 L1 R1) A1 A2 E1 E2) ∧ (Bs .u8 w10 (.slice av1 l1 cv1) A1 ∧ Bs .u8 w10 (.slice au1 l2 cu1) A2 ∧ Bs .u8 w10 (.slice av2 l3 cv2) E1 ∧ Bs .u8 w10 (.slice au2 l4 cu2) E2) ∧ Only (fun _ => False) w w10) := ⟨CR.out.1.past O10.out, CR.out.2.1.past O10.out, by rw [EQ2.out]; exact CR.out.2.2.1.past O10.out, ⟨CR.out.2.2.2.1.1.past O10.out, CR.out.2.2.2.1.2.1.past O10.out, CR.out.2.2.2.1.2.2.1.past O10.out, CR.out.2.2.2.1.2.2.2.past O10.out⟩, CR.out.2.2.2.2.same O10.out⟩
              clear CR O10 OT HFF EQ2 HO HC1
              have t0 := TTf.out.1.cell 0
              have t1 := TTf.out.1.cell 1
              simp only [List.getElem?_cons_zero, List.getElem?_cons_succ] at t0 t1
              go_wp2_with fail
              go_region_held (fun V => V.cell? ⟨w1.heap.size, 0, none⟩ = some (.slice ga gl gc) ∧ V.cell? ⟨w1.heap.size, 1, none⟩ = some (.slice ha hl' hc')) (first | go_keep | exact ⟨cell_keep z0 (set2_only _ _ _ _) hne1, cell_keep z1 (set2_only _ _ _ _) hne1⟩) (first | (go_at_call 15; refine (N1.out _ _ _ (TTf.out.2.2.2.1.1.past ((Only.refl _ _).drew)) NC.out.1 (TTf.out.2.2.2.1.2.2.1.past ((Only.refl _ _).drew)) NC.out.2.2.1).mono ?_; rintro e wy ⟨vy, rfl, owny, oy⟩; have OY := hideIt (((Only.refl (fun _ => False) w10).drew).same oy); have BY := hideIt (And.intro (own_bs owny) (NoCap.of_own owny)); have y0 := cell_past t0 OY.out; have y1 := cell_past t1 OY.out; obtain ⟨aoy, capy, ey⟩ := own_form owny; subst ey; clear owny oy N1) | (go_at_call 15; refine (N2.out _ _ _ (TTf.out.2.2.2.1.2.1.past OY.out) NC.out.2.1 (TTf.out.2.2.2.1.2.2.2.past OY.out) NC.out.2.2.2).mono ?_; rintro e wz ⟨vz', rfl, ownz, oz'⟩; have OZ := hideIt (OY.out.same oz'); have BZ := hideIt (And.intro (And.intro (BY.out.1.past oz') BY.out.2) (And.intro (own_bs ownz) (NoCap.of_own ownz))); have s0 := (TTf.out.2.1.past OZ.out).cell 0; have s1 := (TTf.out.2.1.past OZ.out).cell 1; have q0 := (TTf.out.2.1.past OZ.out).froz 0; have q1 := (TTf.out.2.1.past OZ.out).froz 1; simp only [List.getElem?_cons_zero, List.getElem?_cons_succ] at s0 s1; have z0 := cell_past t0 OZ.out; have z1 := cell_past t1 OZ.out; obtain ⟨aoz, capz, ez⟩ := own_form ownz; subst ez; clear ownz oz' N2))
              have oS := set2_only wz w.heap.size (.slice ga gl gc) (.slice ha hl' hc')
              have hBz := TTf.out.2.1.past OZ.out
              have hrs := two_rows (ca := .slice none 0 0) (cb := .slice none 0 0) ⟨⟨_, _, _, rfl⟩, ⟨_, _, _, rfl⟩⟩
              go_wp2
              refine bodyPost_ret (results_c4 rfl _ _ w.heap.size 42 _ (0, 0) _ rfl (set2_blk hBz (.slice ga gl gc) (.slice ha hl' hc')) Try.underlying42 rfl Try.sizePair) rfl ⟨.slice ga gl gc, .slice ha hl' hc', .slice aoy 32 capy, .slice aoz 32 capz, by rw [EQ.out]; rfl, (TTf.out.2.2.1.past OZ.out).keepR hBz hrs oS, BZ.out.1.1.keepR hBz hrs oS, BZ.out.1.2, BZ.out.2.1.keepR hBz hrs oS, BZ.out.2.2, (TTf.out.2.2.2.2.same OZ.out).trans oS (fun i hi e => by omega)⟩
            | true =>
              have M4 := hideIt (lsame20_any _ _ _ _ w10 OT.out.1.1 OT.out.2.1 (by rw [List.length_cons, List.length_append]; have := LB.out; omega))
              obtain ⟨C2, hC2⟩ : ∃ C2, C2 = decide ((1 : Int) :: (A1 ++ E1) = 1 :: (A2 ++ E2)) := ⟨_, rfl⟩
              rw [← hC2] at M4
              have HC2 := hideIt hC2
              clear hC2
              go_wp2_with fail
              refine M4.out.mono ?_
              rintro e w11 ⟨rfl, o11⟩
              have O11 := hideIt (O10.out.same o11)
              have OU := hideIt (And.intro (And.intro (OT.out.1.1.past o11) OT.out.1.2) (And.intro (OT.out.2.1.past o11) OT.out.2.2))
              clear M4 o11 O10 OT
              cases C2 with
              | true =>
                have EQ2 : Hid (CL2 (OR2 L1 R1) A1 A2 E1 E2 = OR2 L1 R1) := by
                  show _ = _
                  rw [HO.out]
                  exact if_neg (fun h => h.2 (of_decide_eq_true HC2.out.symm))
                have EQ : Hid ((CL2 (OR2 L1 R1) A1 A2 E1 E2).isSome = false) := by show _ = _; rw [EQ2.out, HO.out]; rfl
                have TTf : Hid (Blk w11 w1.heap.size 42 [.slice ga gl gc, .slice ha hl' hc'] ∧ Blk w11 w.heap.size 42 [.slice none 0 0, .slice none 0 0] ∧ PK w11 (.slice ga gl gc) (.slice ha hl' hc') (CL2 (OR2 L1 R1) A1 A2 E1 E2) ∧ (Bs .u8 w11 (.slice av1 l1 cv1) A1 ∧ Bs .u8 w11 (.slice au1 l2 cu1) A2 ∧ Bs .u8 w11 (.slice av2 l3 cv2) E1 ∧ Bs .u8 w11 (.slice au2 l4 cu2) E2) ∧ Only (fun _ => False) w w11) := ⟨CR.out.1.past O11.out, CR.out.2.1.past O11.out, by rw [EQ2.out]; exact CR.out.2.2.1.past O11.out, ⟨CR.out.2.2.2.1.1.past O11.out, CR.out.2.2.2.1.2.1.past O11.out, CR.out.2.2.2.1.2.2.1.past O11.out, CR.out.2.2.2.1.2.2.2.past O11.out⟩, CR.out.2.2.2.2.same O11.out⟩
                clear CR O11 OU HFF EQ2 HO HC1 HC2
                have t0 := TTf.out.1.cell 0
                have t1 := TTf.out.1.cell 1
                simp only [List.getElem?_cons_zero, List.getElem?_cons_succ] at t0 t1
                go_wp2_with fail
                go_region_held (fun V => V.cell? ⟨w1.heap.size, 0, none⟩ = some (.slice ga gl gc) ∧ V.cell? ⟨w1.heap.size, 1, none⟩ = some (.slice ha hl' hc')) (first | go_keep | exact ⟨cell_keep z0 (set2_only _ _ _ _) hne1, cell_keep z1 (set2_only _ _ _ _) hne1⟩) (first | (go_at_call 15; refine (N1.out _ _ _ (TTf.out.2.2.2.1.1.past ((Only.refl _ _).drew)) NC.out.1 (TTf.out.2.2.2.1.2.2.1.past ((Only.refl _ _).drew)) NC.out.2.2.1).mono ?_; rintro e wy ⟨vy, rfl, owny, oy⟩; have OY := hideIt (((Only.refl (fun _ => False) w11).drew).same oy); have BY := hideIt (And.intro (own_bs owny) (NoCap.of_own owny)); have y0 := cell_past t0 OY.out; have y1 := cell_past t1 OY.out; obtain ⟨aoy, capy, ey⟩ := own_form owny; subst ey; clear owny oy N1) | (go_at_call 15; refine (N2.out _ _ _ (TTf.out.2.2.2.1.2.1.past OY.out) NC.out.2.1 (TTf.out.2.2.2.1.2.2.2.past OY.out) NC.out.2.2.2).mono ?_; rintro e wz ⟨vz', rfl, ownz, oz'⟩; have OZ := hideIt (OY.out.same oz'); have BZ := hideIt (And.intro (And.intro (BY.out.1.past oz') BY.out.2) (And.intro (own_bs ownz) (NoCap.of_own ownz))); have s0 := (TTf.out.2.1.past OZ.out).cell 0; have s1 := (TTf.out.2.1.past OZ.out).cell 1; have q0 := (TTf.out.2.1.past OZ.out).froz 0; have q1 := (TTf.out.2.1.past OZ.out).froz 1; simp only [List.getElem?_cons_zero, List.getElem?_cons_succ] at s0 s1; have z0 := cell_past t0 OZ.out; have z1 := cell_past t1 OZ.out; obtain ⟨aoz, capz, ez⟩ := own_form ownz; subst ez; clear ownz oz' N2))
                have oS := set2_only wz w.heap.size (.slice ga gl gc) (.slice ha hl' hc')
                have hBz := TTf.out.2.1.past OZ.out
                have hrs := two_rows (ca := .slice none 0 0) (cb := .slice none 0 0) ⟨⟨_, _, _, rfl⟩, ⟨_, _, _, rfl⟩⟩
                go_wp2
                refine bodyPost_ret (results_c4 rfl _ _ w.heap.size 42 _ (0, 0) _ rfl (set2_blk hBz (.slice ga gl gc) (.slice ha hl' hc')) Try.underlying42 rfl Try.sizePair) rfl ⟨.slice ga gl gc, .slice ha hl' hc', .slice aoy 32 capy, .slice aoz 32 capz, by rw [EQ.out]; rfl, (TTf.out.2.2.1.past OZ.out).keepR hBz hrs oS, BZ.out.1.1.keepR hBz hrs oS, BZ.out.1.2, BZ.out.2.1.keepR hBz hrs oS, BZ.out.2.2, (TTf.out.2.2.2.2.same OZ.out).trans oS (fun i hi e => by omega)⟩
              | false =>
                have EQ2 : Hid (CL2 (OR2 L1 R1) A1 A2 E1 E2 = some (1 :: (A1 ++ E1), 1 :: (A2 ++ E2))) := by
                  show _ = _
                  rw [HO.out]
                  exact if_pos ⟨of_decide_eq_true HC1.out.symm, of_decide_eq_false HC2.out.symm⟩
                have EQ : Hid ((CL2 (OR2 L1 R1) A1 A2 E1 E2).isSome = true) := by show _ = _; rw [EQ2.out]; rfl
                have hB11 := CR.out.1.past O11.out
                have oT := set2_only w11 w1.heap.size (.slice ac1 mc1 cc1) (.slice ac2 mc2 cc2)
                have hr2 := two_rows (ca := .slice ga gl gc) (cb := .slice ha hl' hc') ⟨⟨_, _, _, rfl⟩, ⟨_, _, _, rfl⟩⟩
                have k0 := hB11.cell 0
                have k1 := hB11.cell 1
                have f0 := hB11.froz 0
                have f1 := hB11.froz 1
                simp only [List.getElem?_cons_zero, List.getElem?_cons_succ] at k0 k1
                have TTf : Hid (Blk ((w11.setCell ⟨w1.heap.size, 0, none⟩ (.slice ac1 mc1 cc1)).setCell ⟨w1.heap.size, 1, none⟩ (.slice ac2 mc2 cc2)) w1.heap.size 42 [.slice ac1 mc1 cc1, .slice ac2 mc2 cc2] ∧ Blk ((w11.setCell ⟨w1.heap.size, 0, none⟩ (.slice ac1 mc1 cc1)).setCell ⟨w1.heap.size, 1, none⟩ (.slice ac2 mc2 cc2)) w.heap.size 42 [.slice none 0 0, .slice none 0 0] ∧ PK ((w11.setCell ⟨w1.heap.size, 0, none⟩ (.slice ac1 mc1 cc1)).setCell ⟨w1.heap.size, 1, none⟩ (.slice ac2 mc2 cc2)) (.slice ac1 mc1 cc1) (.slice ac2 mc2 cc2) (CL2 (OR2 L1 R1) A1 A2 E1 E2) ∧ (Bs .u8 ((w11.setCell ⟨w1.heap.size, 0, none⟩ (.slice ac1 mc1 cc1)).setCell ⟨w1.heap.size, 1, none⟩ (.slice ac2 mc2 cc2)) (.slice av1 l1 cv1) A1 ∧ Bs .u8 ((w11.setCell ⟨w1.heap.size, 0, none⟩ (.slice ac1 mc1 cc1)).setCell ⟨w1.heap.size, 1, none⟩ (.slice ac2 mc2 cc2)) (.slice au1 l2 cu1) A2 ∧ Bs .u8 ((w11.setCell ⟨w1.heap.size, 0, none⟩ (.slice ac1 mc1 cc1)).setCell ⟨w1.heap.size, 1, none⟩ (.slice ac2 mc2 cc2)) (.slice av2 l3 cv2) E1 ∧ Bs .u8 ((w11.setCell ⟨w1.heap.size, 0, none⟩ (.slice ac1 mc1 cc1)).setCell ⟨w1.heap.size, 1, none⟩ (.slice ac2 mc2 cc2)) (.slice au2 l4 cu2) E2) ∧ Only (fun _ => False) w ((w11.setCell ⟨w1.heap.size, 0, none⟩ (.slice ac1 mc1 cc1)).setCell ⟨w1.heap.size, 1, none⟩ (.slice ac2 mc2 cc2))) := ⟨set2_blk hB11 _ _, (CR.out.2.1.past O11.out).keep oT (fun e => hne1 e.symm), by rw [EQ2.out]; exact ⟨_, _, OU.out.1.1.keepR hB11 hr2 oT, OU.out.1.2, OU.out.2.1.keepR hB11 hr2 oT, OU.out.2.2, fun c h => (Option.some.inj h).symm⟩, ⟨(CR.out.2.2.2.1.1.past O11.out).keepR hB11 hr2 oT, (CR.out.2.2.2.1.2.1.past O11.out).keepR hB11 hr2 oT, (CR.out.2.2.2.1.2.2.1.past O11.out).keepR hB11 hr2 oT, (CR.out.2.2.2.1.2.2.2.past O11.out).keepR hB11 hr2 oT⟩, (CR.out.2.2.2.2.same O11.out).trans oT (fun i hi e => by have := HW1.out; omega)⟩
                clear CR O11 OU HFF EQ2 HO HC1 HC2 hB11 oT hr2
                have t0 := TTf.out.1.cell 0
                have t1 := TTf.out.1.cell 1
                simp only [List.getElem?_cons_zero, List.getElem?_cons_succ] at t0 t1
                go_wp2_with fail
                go_region_held (fun V => V.cell? ⟨w1.heap.size, 0, none⟩ = some (.slice ac1 mc1 cc1) ∧ V.cell? ⟨w1.heap.size, 1, none⟩ = some (.slice ac2 mc2 cc2)) (first | go_keep | exact ⟨cell_keep z0 (set2_only _ _ _ _) hne1, cell_keep z1 (set2_only _ _ _ _) hne1⟩) (first | (go_at_call 15; refine (N1.out _ _ _ (TTf.out.2.2.2.1.1.past ((Only.refl _ _).drew)) NC.out.1 (TTf.out.2.2.2.1.2.2.1.past ((Only.refl _ _).drew)) NC.out.2.2.1).mono ?_; rintro e wy ⟨vy, rfl, owny, oy⟩; have OY := hideIt (((Only.refl (fun _ => False) ((w11.setCell ⟨w1.heap.size, 0, none⟩ (.slice ac1 mc1 cc1)).setCell ⟨w1.heap.size, 1, none⟩ (.slice ac2 mc2 cc2))).drew).same oy); have BY := hideIt (And.intro (own_bs owny) (NoCap.of_own owny)); have y0 := cell_past t0 OY.out; have y1 := cell_past t1 OY.out; obtain ⟨aoy, capy, ey⟩ := own_form owny; subst ey; clear owny oy N1) | (go_at_call 15; refine (N2.out _ _ _ (TTf.out.2.2.2.1.2.1.past OY.out) NC.out.2.1 (TTf.out.2.2.2.1.2.2.2.past OY.out) NC.out.2.2.2).mono ?_; rintro e wz ⟨vz', rfl, ownz, oz'⟩; have OZ := hideIt (OY.out.same oz'); have BZ := hideIt (And.intro (And.intro (BY.out.1.past oz') BY.out.2) (And.intro (own_bs ownz) (NoCap.of_own ownz))); have s0 := (TTf.out.2.1.past OZ.out).cell 0; have s1 := (TTf.out.2.1.past OZ.out).cell 1; have q0 := (TTf.out.2.1.past OZ.out).froz 0; have q1 := (TTf.out.2.1.past OZ.out).froz 1; simp only [List.getElem?_cons_zero, List.getElem?_cons_succ] at s0 s1; have z0 := cell_past t0 OZ.out; have z1 := cell_past t1 OZ.out; obtain ⟨aoz, capz, ez⟩ := own_form ownz; subst ez; clear ownz oz' N2))
                have oS := set2_only wz w.heap.size (.slice ac1 mc1 cc1) (.slice ac2 mc2 cc2)
                have hBz := TTf.out.2.1.past OZ.out
                have hrs := two_rows (ca := .slice none 0 0) (cb := .slice none 0 0) ⟨⟨_, _, _, rfl⟩, ⟨_, _, _, rfl⟩⟩
                go_wp2
                refine bodyPost_ret (results_c4 rfl _ _ w.heap.size 42 _ (0, 0) _ rfl (set2_blk hBz (.slice ac1 mc1 cc1) (.slice ac2 mc2 cc2)) Try.underlying42 rfl Try.sizePair) rfl ⟨.slice ac1 mc1 cc1, .slice ac2 mc2 cc2, .slice aoy 32 capy, .slice aoz 32 capz, by rw [EQ.out]; rfl, (TTf.out.2.2.1.past OZ.out).keepR hBz hrs oS, BZ.out.1.1.keepR hBz hrs oS, BZ.out.1.2, BZ.out.2.1.keepR hBz hrs oS, BZ.out.2.2, (TTf.out.2.2.2.2.same OZ.out).trans oS (fun i hi e => by omega)⟩
end Go.Proofs.Ytnifflnhbpfmnaa
