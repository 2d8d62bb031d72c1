/- Several texts in one: Sw, Ar0, Rt, Ar, Bo, Zr0, Sb0, Sbc. -/
import Derived.Test.YtbcfpiahhippaaaG1
import Derived.Test.YtbcfpiahhippaaaProg
import Derived.Deep.WholeRow
import Derived.Deep.MidRow
import Derived.Great.BuildSlice
import Derived.Laws.IdiomStrings
import Derived.Laws.BytesArg
import Derived.OpenShut

/- The 64 words of a piece, laid one by one: plain facts. -/
namespace Go.Proofs.Ytbcfpiahhippaaa

/-- bytes -/
def U8 (b : List Int) : Prop := ∀ y ∈ b, 0 ≤ y ∧ y ≤ 255
theorem U8.at {b : List Int} (h : U8 b) (j : Nat) : 0 ≤ b.getD j 0 ∧ b.getD j 0 ≤ 255 := by
  rw [List.getD_eq_getElem?_getD]
  by_cases hj : j < b.length
  · rw [List.getElem?_eq_getElem hj]; exact h _ (List.getElem_mem hj)
  · rw [List.getElem?_eq_none (by omega)]; decide
theorem U8.app {a b : List Int} (h : U8 a) (k : U8 b) : U8 (a ++ b) := fun y hy => by
  rcases List.mem_append.1 hy with h1 | h1
  · exact h y h1
  · exact k y h1
theorem U8.take {a : List Int} (h : U8 a) (n : Nat) : U8 (a.take n) := fun y hy => h y (List.mem_of_mem_take hy)
theorem U8.drop {a : List Int} (h : U8 a) (n : Nat) : U8 (a.drop n) := fun y hy => h y (List.mem_of_mem_drop hy)
/-- words -/
def W32 (s : List Nat) : Prop := ∀ x ∈ s, x < 4294967296
theorem W32.at {s : List Nat} (h : W32 s) (j : Nat) : s.getD j 0 < 4294967296 := by
  rw [List.getD_eq_getElem?_getD]
  by_cases hj : j < s.length
  · rw [List.getElem?_eq_getElem hj]; exact h _ (List.getElem_mem hj)
  · rw [List.getElem?_eq_none (by omega)]; decide
theorem W32.app {a b : List Nat} (h : W32 a) (k : W32 b) : W32 (a ++ b) := fun y hy => by
  rcases List.mem_append.1 hy with h1 | h1
  · exact h y h1
  · exact k y h1
theorem W32.one {x : Nat} (h : x < 4294967296) : W32 [x] := fun y hy => by simp at hy; subst hy; exact h

/-- the first m bytes of word k -/
def accw (b : List Int) (k : Nat) : Nat → Nat
  | 0 => 0
  | m + 1 => accw b k m * 256 + (b.getD (4 * k + m) 0).toNat
theorem accw_lt (b : List Int) (h : U8 b) (k : Nat) : ∀ m, accw b k m < 256 ^ m := by
  intro m
  induction m with
  | zero => exact Nat.zero_lt_one
  | succ m ih =>
    have := h.at (4 * k + m)
    have e : 256 ^ (m + 1) = 256 ^ m * 256 := Nat.pow_succ ..
    show accw b k m * 256 + (b.getD (4 * k + m) 0).toNat < _
    rw [e]
    omega
theorem accw_four (b : List Int) (k : Nat) : accw b k 4 = wd4 b k := by
  simp only [accw, wd4, Nat.add_zero]
  omega
/-- the words when i bytes are laid -/
def wpart (b : List Int) (i : Nat) : List Nat := (List.range 64).map fun k => accw b k (min 4 (i - 4 * k))
theorem wpart_len (b : List Int) (i : Nat) : (wpart b i).length = 64 := by simp [wpart]
theorem wpart_at (b : List Int) (i k : Nat) (hk : k < 64) : (wpart b i).getD k 0 = accw b k (min 4 (i - 4 * k)) := by
  simp [wpart, List.getD_eq_getElem?_getD, hk]
theorem wpart_zero (b : List Int) : wpart b 0 = List.replicate 64 0 := by
  apply List.ext_getElem
  · simp [wpart]
  · intro i h1 h2
    simp only [wpart, List.getElem_map, List.getElem_range, List.getElem_replicate]
    rw [show min 4 (0 - 4 * i) = 0 by omega]; rfl
theorem wpart_here (b : List Int) (i : Nat) (_hi : i < 64) : (wpart b i).getD (i / 4) 0 = accw b (i / 4) (i % 4) := by
  rw [wpart_at b i _ (by omega), show min 4 (i - 4 * (i / 4)) = i % 4 by omega]
theorem wpart_next (b : List Int) (i : Nat) (_hi : i < 64) : wpart b (i + 1) = (wpart b i).set (i / 4) (accw b (i / 4) (i % 4) * 256 + (b.getD i 0).toNat) := by
  apply List.ext_getElem
  · simp [wpart]
  · intro k h1 h2
    have hk : k < 64 := by simpa [wpart] using h1
    rw [List.getElem_set]
    by_cases e : i / 4 = k
    · rw [if_pos e]
      simp only [wpart, List.getElem_map, List.getElem_range]
      subst e
      rw [show min 4 (i + 1 - 4 * (i / 4)) = i % 4 + 1 by omega]
      show accw b (i / 4) (i % 4) * 256 + (b.getD (4 * (i / 4) + i % 4) 0).toNat = _
      rw [show 4 * (i / 4) + i % 4 = i by omega]
    · rw [if_neg e]
      simp only [wpart, List.getElem_map, List.getElem_range]
      rw [show min 4 (i + 1 - 4 * k) = min 4 (i - 4 * k) by omega]
theorem wpart_all (b : List Int) : wpart b 64 = (List.range 16).map (wd4 b) ++ List.replicate 48 0 := by
  apply List.ext_getElem
  · simp [wpart]
  · intro k h1 h2
    have hk : k < 64 := by simpa [wpart] using h1
    by_cases h : k < 16
    · rw [List.getElem_append_left (by simpa using h)]
      simp only [wpart, List.getElem_map, List.getElem_range]
      rw [show min 4 (64 - 4 * k) = 4 by omega, accw_four]
    · rw [List.getElem_append_right (by simp; omega)]
      simp only [wpart, List.getElem_map, List.getElem_range, List.getElem_replicate]
      rw [show min 4 (64 - 4 * k) = 0 by omega]; rfl
theorem wd4_lt (b : List Int) (h : U8 b) (k : Nat) : wd4 b k < 4294967296 := by rw [← accw_four]; exact accw_lt b h k 4
theorem wext_succ : ∀ (n : Nat) (w : List Nat), wext (n + 1) w = wext n w ++ [nextw (wext n w)] := by
  intro n
  induction n with
  | zero => intro w; rfl
  | succ n ih => intro w; rw [show wext (n + 1 + 1) w = wext (n + 1) (w ++ [nextw w]) from rfl, ih]; rfl
theorem wext_len (n : Nat) (w : List Nat) : (wext n w).length = w.length + n := by
  induction n with
  | zero => rfl
  | succ n ih => rw [wext_succ, List.length_append, ih]; rfl
theorem nextw_lt (w : List Nat) : nextw w < 4294967296 := Nat.mod_lt _ (by decide)
/-- the first t words -/
def wv (b : List Int) (t : Nat) : List Nat := wext (t - 16) ((List.range 16).map (wd4 b))
theorem wv_len (b : List Int) (t : Nat) (h : 16 ≤ t) : (wv b t).length = t := by simp [wv, wext_len]; omega
theorem wv_next (b : List Int) (t : Nat) (h : 16 ≤ t) : wv b (t + 1) = wv b t ++ [nextw (wv b t)] := by
  unfold wv; rw [show t + 1 - 16 = (t - 16) + 1 by omega, wext_succ]
theorem wv_all (b : List Int) : wv b 64 = wds b := rfl
theorem wds_len (b : List Int) : (wds b).length = 64 := wv_len b 64 (by decide)
theorem wv_w32 (b : List Int) (h : U8 b) (n : Nat) : W32 (wv b (16 + n)) := by
  induction n with
  | zero =>
    intro x hx
    simp [wv, wext] at hx
    obtain ⟨k, _, rfl⟩ := hx
    exact wd4_lt b h k
  | succ n ih =>
    rw [← Nat.add_assoc, wv_next b _ (by omega)]
    exact ih.app (W32.one (nextw_lt _))
theorem wds_w32 (b : List Int) (h : U8 b) : W32 (wds b) := wv_w32 b h 48
theorem set_next (V : List Nat) (t x : Nat) (hV : V.length = t) (ht : t < 64) : (V ++ List.replicate (64 - t) 0).set t x = (V ++ [x]) ++ List.replicate (64 - (t + 1)) 0 := by
  subst hV
  rw [List.set_append_right _ _ (Nat.le_refl _), Nat.sub_self, show 64 - V.length = (64 - (V.length + 1)) + 1 by omega, List.replicate_succ, List.set_cons_zero]
  simp
theorem getD_left (V z : List Nat) (k : Nat) (h : k < V.length) : (V ++ z).getD k 0 = V.getD k 0 := by
  rw [List.getD_eq_getElem?_getD, List.getD_eq_getElem?_getD, List.getElem?_append_left h]
/-- the round's reckoning is the next word -/
theorem nextw_eq (V : List Nat) (t : Nat) (hV : V.length = t) : nextw V = (sg1 (V.getD (t - 2) 0) + V.getD (t - 7) 0 + sg0 (V.getD (t - 15) 0) + V.getD (t - 16) 0) % 4294967296 := by
  subst hV; rfl
theorem or_byte (x b : Nat) (hb : b < 256) : (x * 256) ||| b = x * 256 + b := by
  have := Nat.two_pow_add_eq_or_of_lt (i := 8) (b := b) (by simpa using hb) x
  rw [Nat.mul_comm x 256]
  exact this.symm
theorem xor_lt {x y : Nat} (hx : x < 4294967296) (hy : y < 4294967296) : x ^^^ y < 4294967296 := Nat.xor_lt_two_pow (n := 32) hx hy
theorem shr_lt (x n : Nat) (hx : x < 4294967296) : x / 2 ^ n < 4294967296 := Nat.lt_of_le_of_lt (Nat.div_le_self _ _) hx
end Go.Proofs.Ytbcfpiahhippaaa

/- Arrays of words and of bytes as values and in memory: what holds in every seat. -/
namespace Go.Proofs.Ytbcfpiahhippaaa
open Go.RowKit

/-- words as cells -/
def wl (s : List Nat) : List Value := s.map fun x => Value.int .u32 ((x : Nat) : Int)
/-- bytes as cells -/
def bl (p : List Int) : List Value := p.map (Value.int .u8)
theorem wl_len (s : List Nat) : (wl s).length = s.length := List.length_map ..
theorem bl_len (s : List Int) : (bl s).length = s.length := List.length_map ..
theorem wl_at (s : List Nat) (j : Nat) (h : j < s.length) : (wl s)[j]? = some (.int .u32 ((s.getD j 0 : Nat) : Int)) := by
  simp [wl, List.getD_eq_getElem?_getD, List.getElem?_eq_getElem h]
theorem bl_at (s : List Int) (j : Nat) (h : j < s.length) : (bl s)[j]? = some (.int .u8 (s.getD j 0)) := by
  simp [bl, List.getD_eq_getElem?_getD, List.getElem?_eq_getElem h]
theorem wl_one (s : List Nat) : ∀ v ∈ wl s, v.oneCell' = true := by
  intro u hu; simp [wl] at hu; obtain ⟨x, _, rfl⟩ := hu; rfl
theorem bl_one (s : List Int) : ∀ v ∈ bl s, v.oneCell' = true := oneCell_ints _ _
theorem wl_all (s : List Nat) : (wl s).toArray.all (·.oneCell') = true := all_oneCell_toArray (wl_one s)
theorem wl_app (s t : List Nat) : wl (s ++ t) = wl s ++ wl t := List.map_append ..
theorem wl_set (s : List Nat) (i x : Nat) : (wl s).set i (.int .u32 ((x : Nat) : Int)) = wl (s.set i x) := by
  simp [wl, List.map_set]
/-- a block that holds these cells -/
def Blk (w : World) (g : Nat) (t : TypeId) (cs : List Value) : Prop := w.heap[g]? = some (.cells cs.toArray t (0, 0))
theorem Blk.keep {w w' : World} {g : Nat} {t : TypeId} {cs : List Value} (h : Blk w g t cs) {S : Nat → Prop} (o : Only S w w') (hs : ¬ S g) : Blk w' g t cs := Only.heap o h hs
theorem Blk.past {w w' : World} {g : Nat} {t : TypeId} {cs : List Value} (h : Blk w g t cs) (o : Only (fun _ => False) w w') : Blk w' g t cs := h.keep o (fun f => f)
theorem Blk.lt {w : World} {g : Nat} {t : TypeId} {cs : List Value} (h : Blk w g t cs) : g < w.heap.size := (Array.getElem?_eq_some_iff.1 h).1
theorem Blk.cell {w : World} {g : Nat} {t : TypeId} {cs : List Value} (h : Blk w g t cs) (j : Nat) : w.cell? ⟨g, j, none⟩ = cs[j]? := by
  rw [cell_of_row w g j _ t _ h]; simp
theorem Blk.froz {w : World} {g : Nat} {t : TypeId} {cs : List Value} (h : Blk w g t cs) (j : Nat) : w.frozen? ⟨g, j, none⟩ = false := frozen_of_row w g j _ t h
theorem Blk.set {w : World} {g : Nat} {t : TypeId} {cs : List Value} (h : Blk w g t cs) (j : Nat) (v : Value) : Blk (w.setCell ⟨g, j, none⟩ v) g t (cs.set j v) := by
  have := heap_setCell_same w g j _ t v h
  simpa [Blk] using this
theorem Blk.drew {w : World} {g : Nat} {t : TypeId} {cs : List Value} (h : Blk w g t cs) : Blk w.drew g t cs := h
theorem Blk.alloc {w : World} {g : Nat} {t : TypeId} {cs : List Value} (h : Blk w g t cs) (o : Obj) : Blk (w.alloc o) g t cs := h.past ((Only.refl _ _).alloc o)
theorem Blk.new (w : World) (t : TypeId) (cs : List Value) : Blk (w.alloc (.cells cs.toArray t)) w.heap.size t cs := heap_alloc_last w _
theorem Blk.row {w : World} {g : Nat} {t : TypeId} {cs : List Value} (h : Blk w g t cs) (vs : List Value) : Blk (w.setRow g vs.toArray) g t vs := setRow_heap w g _ _ t _ h
theorem Only.setRow {S : Nat → Prop} {a b : World} (h : Only S a b) {g : Nat} (hp : g < a.heap.size → S g) (cs : Array Value) : Only S a (b.setRow g cs) :=
  h.trans (T := fun k => k = g) ⟨rfl, rfl, rfl, by simp, fun k _ hk => setRow_other b g k cs hk⟩ (fun _ hi e => by subst e; exact hp hi)
theorem Blk.there {w : World} {g : Nat} {t : TypeId} {cs : List Value} (h : Blk w g t cs) (o n : Nat) (hn : o + n ≤ cs.length) : w.there g o n := fun j hj => by
  rw [h.cell, h.froz, List.getElem?_eq_getElem (by omega)]
  exact ⟨rfl, rfl⟩
theorem Blk.range {w : World} {g : Nat} {t : TypeId} {a b c : List Value} (h : Blk w g t (a ++ b ++ c)) : w.rangeAt g a.length b := fun j v hv => by
  have hj := (List.getElem?_eq_some_iff.1 hv).1
  rw [h.cell, List.getElem?_append_left (by simp; omega), List.getElem?_append_right (by omega), Nat.add_sub_cancel_left]
  exact hv
theorem Blk.rangeN {w : World} {g : Nat} {t : TypeId} {a b c : List Value} (h : Blk w g t (a ++ b ++ c)) {n : Nat} (hn : a.length = n) : w.rangeAt g n b := by
  subst hn; exact h.range
theorem set_mid (a b c vs : List Value) (hv : vs.length = b.length) : ∀ (w : World) (g : Nat) (t : TypeId), Blk w g t (a ++ b ++ c) → Blk (w.setCells g a.length vs) g t (a ++ vs ++ c) := by
  induction vs generalizing a b with
  | nil =>
    intro w g t h
    cases b with
    | nil => exact h
    | cons y b => simp at hv
  | cons v vs ih =>
    intro w g t h
    cases b with
    | nil => simp at hv
    | cons y b =>
      have h2 : Blk (w.setCell ⟨g, a.length, none⟩ v) g t ((a ++ [v]) ++ b ++ c) := by
        have := h.set a.length v
        simpa [List.set_append] using this
      have := ih (a ++ [v]) b (by simpa using hv) _ g t h2
      simpa [World.setCells] using this
theorem Only.setCells {S : Nat → Prop} {a : World} {g : Nat} (hp : g < a.heap.size → S g) (vs : List Value) : ∀ (o : Nat) (b : World), Only S a b → Only S a (b.setCells g o vs) := by
  induction vs with
  | nil => intro o b h; exact h
  | cons v vs ih =>
    intro o b h
    exact ih (o + 1) _ (h.setCell (p := ⟨g, o, none⟩) hp v)

theorem wpList_build_as {P : Program} {ops : Array Oper} {rest : List Oper} {o : Oper} {a : Act} {w : World} {Q : Exit → Act → World → Prop} (hg : o.guard = none) (t : TypeId) (parts : Array (Nat × Operand)) (ho : o.op = .build t parts)
    (cells : Array Value) (hc : P.built t (parts.map fun (i, x) => (i, a.eval x)).toList = some cells) (h : wpList P ops Q rest (a.put o.dst (.agg cells)) w) : wpList P ops Q (o :: rest) a w :=
  wpList_build hg t parts ho (by rw [hc]; rfl) (by rw [hc]; exact h)

/-- one cell of an array value -/
theorem run_index_cell (t e : TypeId) (n : Nat) (cs : List Value) (j : Nat) (u : Value) (h : Try.prog.underlying t = some (.array n e)) (ha : (∀ w, (isAgg e).run Try.prog w = .ok false w)) (hs : (Try.prog.info? e).map (·.size) = some 1) (hj : j < n) (hu : cs[j]? = some u) (w : World) :
    (Instr.index t (.agg cs.toArray) (.int .i64 j)).run Try.prog w = .ok u w := by
  have h1 : (0 : Int) ≤ (j : Int) ∧ (j : Int) < (n : Int) := by omega
  cases hq : Try.prog.info? e with
  | none => simp [hq] at hs
  | some i =>
    have hi : i.size = 1 := by simpa [hq] using hs
    simp [Instr.index, run_underlying h, asIntOf, h1, sizeOf, typeInfo, hq, hi, ha, hu, go_sem]
    omega
theorem size_alloc (w : World) (o : Obj) : (w.alloc o).heap.size = w.heap.size + 1 := Array.size_push ..
theorem take_nextN (s : List Nat) (j : Nat) (h : j < s.length) : s.take (j + 1) = s.take j ++ [s.getD j 0] := by
  rw [List.take_add_one, List.getElem?_eq_getElem h, List.getD_eq_getElem?_getD, List.getElem?_eq_getElem h]; rfl
theorem Try.agg29 (w : World) : (isAgg 60).run Try.prog w = .ok false w := by kernel_rfl
theorem Try.agg5 (w : World) : (isAgg 5).run Try.prog w = .ok false w := by kernel_rfl
theorem Try.one29 : (Try.prog.info? 60).map (·.size) = some 1 := by kernel_rfl
theorem Try.one5 : (Try.prog.info? 5).map (·.size) = some 1 := by kernel_rfl
theorem Try.infoU32 : (Try.prog.info? 60).map (fun i => (i.zero, i.size, i.bytes)) = some (some (.int .u32 0), 1, 4) := by kernel_rfl
/-- words as numbers -/
def wi (s : List Nat) : List Int := s.map fun x => ((x : Nat) : Int)
theorem wi_len (s : List Nat) : (wi s).length = s.length := List.length_map ..
theorem wi_at (s : List Nat) (j : Nat) : (wi s).getD j 0 = ((s.getD j 0 : Nat) : Int) := by
  simp only [wi, List.getD_eq_getElem?_getD, List.getElem?_map]
  cases s[j]? <;> rfl
theorem wi_map (s : List Nat) : (wi s).map (Value.int .u32) = wl s := by simp [wi, wl]
theorem Bs.of_wl {w : World} {g : Nat} {E : TypeId} {s : List Nat} (h : Blk w g E (wl s)) (n : Nat) (hn : s.length = n) : Bs .u32 w (.slice (some ⟨g, 0, none⟩) n n) (wi s) := by
  refine ⟨_, n, by rw [wi_len, hn], by rw [wi_len, hn]; exact Nat.le_refl _, fun _ => ⟨g, 0, rfl, fun j hj => ?_⟩⟩
  rw [wi_len] at hj
  rw [Nat.zero_add, h.cell, wl_at s j hj, wi_at]
/-- one word of a slice of words -/
theorem ws_cell {w : World} {b off : Nat} {n cap : Nat} {s : List Nat} (h : Bs .u32 w (.slice (some ⟨b, off, none⟩) n cap) (wi s)) (j : Nat) (hj : j < s.length) : w.cell? ⟨b, off + j, none⟩ = some (.int .u32 ((s.getD j 0 : Nat) : Int)) := by
  obtain ⟨b', off', cap', e, hc⟩ := h.at j (by rw [wi_len]; exact hj)
  simp at e
  obtain ⟨⟨rfl, rfl⟩, _, rfl⟩ := e
  rw [hc, wi_at]

theorem cell_off (w : World) (G i j : Nat) (v : Value) (h : ¬ i = j) : (w.setCell ⟨G, i, none⟩ v).cell? ⟨G, j, none⟩ = w.cell? ⟨G, j, none⟩ := World.cell?_setCell_other _ _ _ _ (fun e => h (by cases e; rfl))
theorem own_of_blk {w : World} {base g : Nat} {E : TypeId} {cs : List Value} {n : Nat} (h : Blk w g E cs) (hb : base ≤ g) (hm : n ≤ maxLen) (hc : cs.length = n) :
    w.ownsRow base E 1 (.slice (some ⟨g, 0, none⟩) n n) n cs :=
  ⟨by omega, .inr ⟨g, n, cs.toArray, rfl, hb, h, Nat.le_refl _, hm, by simpa using hc, by simp [← hc]⟩⟩
theorem bl_set (s : List Int) (i : Nat) (x : Int) : (bl s).set i (.int .u8 x) = bl (s.set i x) := by simp [bl, List.map_set]
end Go.Proofs.Ytbcfpiahhippaaa

/- Words of 32 bits: turned about. -/
namespace Go.Proofs.Ytbcfpiahhippaaa
open Go.RowKit

theorem and31 (n : Nat) (h1 : 1 ≤ n) (h2 : n ≤ 31) : bits .and .u64 (IntKind.u64.wrap (-(n : Int))) 31 = ((32 - n : Nat) : Int) := by
  have e : IntKind.u64.wrap (-(n : Int)) = ((18446744073709551616 - n : Nat) : Int) := by
    simp [IntKind.wrap, IntKind.bits, IntKind.signed]; omega
  rw [e, show (31 : Int) = ((31 : Nat) : Int) from rfl, u64_and_nat _ _ (by omega) (by omega), show (31 : Nat) = 2 ^ 5 - 1 from rfl, Nat.and_two_pow_sub_one_eq_mod]
  omega
theorem rotw_lt (x n : Nat) (hx : x < 4294967296) : rotw x n < 4294967296 := by
  unfold rotw
  exact Nat.or_lt_two_pow (n := 32) (shr_lt x n hx) (Nat.mod_lt _ (by decide))
theorem and_lt' {x : Nat} (y : Nat) (hx : x < 4294967296) : x &&& y < 4294967296 := Nat.lt_of_le_of_lt Nat.and_le_left hx

set_option maxHeartbeats 400000 in
set_option maxRecDepth 100000 in
theorem rotl_any (x n : Nat) (w : World) (hx : x < 4294967296) (h1 : 1 ≤ n) (h2 : n ≤ 31) :
    Calls Try.prog 64 #[.int .u32 x, .int .i64 (-(n : Int))] w fun e w' => e = .returned (.int .u32 (rotw x n : Nat)) ∧ w = w' := by
  have hb := and31 n h1 h2
  obtain ⟨s, hs⟩ : ∃ s, s = 32 - n := ⟨_, rfl⟩
  rw [← hs] at hb
  have h3 : 1 ≤ s := by omega
  have h4 : s ≤ 31 := by omega
  have HS : Hid (n = 32 - s) := (by omega : n = 32 - s)
  clear hs h1 h2
  go_enter Try.func64, Try.ntmps64
  go_wp2
  go_ret
  refine ⟨ret_int ?_, rfl⟩
  rw [show ((x : Int) * 2 ^ s % 4294967296) = ((x * 2 ^ s % 4294967296 : Nat) : Int) by simp, show ((x : Int) / 2 ^ (32 - s)) = ((x / 2 ^ (32 - s) : Nat) : Int) by simp,
    u32_or_nat _ _ (Nat.mod_lt _ (by decide)) (shr_lt _ _ hx), HS.out]
  unfold rotw
  rw [Nat.or_comm, show 32 - (32 - s) = s by omega]

set_option maxHeartbeats 400000 in
set_option maxRecDepth 100000 in
theorem rot_any (x n : Nat) (w : World) (hx : x < 4294967296) (h1 : 1 ≤ n) (h2 : n ≤ 31) :
    Calls Try.prog 63 #[.int .u32 x, .int .i64 n] w fun e w' => e = .returned (.int .u32 (rotw x n : Nat)) ∧ w = w' := by
  have A := hideIt (rotl_any x n w hx h1 h2)
  go_enter Try.func63, Try.ntmps63
  go_wp2_with fail
  refine A.out.mono ?_
  rintro e w1 ⟨rfl, rfl⟩
  go_wp2
  go_ret
  exact ⟨rfl, rfl⟩

theorem sg0_int (x : Nat) (hx : x < 4294967296) : bits .xor .u32 (bits .xor .u32 (rotw x 7 : Nat) (rotw x 18 : Nat)) ((x : Int) / 8) = (sg0 x : Nat) := by
  rw [show ((x : Int) / 8) = ((x / 8 : Nat) : Int) from rfl, u32_xor_nat _ _ (rotw_lt _ _ hx) (rotw_lt _ _ hx), u32_xor_nat _ _ (xor_lt (rotw_lt _ _ hx) (rotw_lt _ _ hx)) (by omega)]; rfl
theorem sg1_int (x : Nat) (hx : x < 4294967296) : bits .xor .u32 (bits .xor .u32 (rotw x 17 : Nat) (rotw x 19 : Nat)) ((x : Int) / 1024) = (sg1 x : Nat) := by
  rw [show ((x : Int) / 1024) = ((x / 1024 : Nat) : Int) from rfl, u32_xor_nat _ _ (rotw_lt _ _ hx) (rotw_lt _ _ hx), u32_xor_nat _ _ (xor_lt (rotw_lt _ _ hx) (rotw_lt _ _ hx)) (by omega)]; rfl
theorem Sg0_int (x : Nat) (hx : x < 4294967296) : bits .xor .u32 (bits .xor .u32 (rotw x 2 : Nat) (rotw x 13 : Nat)) (rotw x 22 : Nat) = (Sg0 x : Nat) := by
  rw [u32_xor_nat _ _ (rotw_lt _ _ hx) (rotw_lt _ _ hx), u32_xor_nat _ _ (xor_lt (rotw_lt _ _ hx) (rotw_lt _ _ hx)) (rotw_lt _ _ hx)]; rfl
theorem Sg1_int (x : Nat) (hx : x < 4294967296) : bits .xor .u32 (bits .xor .u32 (rotw x 6 : Nat) (rotw x 11 : Nat)) (rotw x 25 : Nat) = (Sg1 x : Nat) := by
  rw [u32_xor_nat _ _ (rotw_lt _ _ hx) (rotw_lt _ _ hx), u32_xor_nat _ _ (xor_lt (rotw_lt _ _ hx) (rotw_lt _ _ hx)) (rotw_lt _ _ hx)]; rfl
theorem Sg0_lt (x : Nat) (hx : x < 4294967296) : Sg0 x < 4294967296 := xor_lt (xor_lt (rotw_lt _ _ hx) (rotw_lt _ _ hx)) (rotw_lt _ _ hx)
theorem Sg1_lt (x : Nat) (hx : x < 4294967296) : Sg1 x < 4294967296 := xor_lt (xor_lt (rotw_lt _ _ hx) (rotw_lt _ _ hx)) (rotw_lt _ _ hx)
theorem sg0_lt (x : Nat) (hx : x < 4294967296) : sg0 x < 4294967296 := xor_lt (xor_lt (rotw_lt _ _ hx) (rotw_lt _ _ hx)) (by omega)
theorem sg1_lt (x : Nat) (hx : x < 4294967296) : sg1 x < 4294967296 := xor_lt (xor_lt (rotw_lt _ _ hx) (rotw_lt _ _ hx)) (by omega)

set_option maxHeartbeats 400000 in
set_option maxRecDepth 100000 in
theorem sg0_any (x : Nat) (w : World) (hx : x < 4294967296) :
    Calls Try.prog 62 #[.int .u32 x] w fun e w' => e = .returned (.int .u32 (sg0 x : Nat)) ∧ w = w' := by
  have A := hideIt (rot_any x 7 w hx (by decide) (by decide))
  have B := hideIt (rot_any x 18 w hx (by decide) (by decide))
  have H := hideIt (sg0_int x hx)
  go_enter Try.func62, Try.ntmps62
  go_wp2_with fail
  refine A.out.mono ?_
  rintro e w1 ⟨rfl, rfl⟩
  go_wp2_with fail
  refine B.out.mono ?_
  rintro e w1 ⟨rfl, rfl⟩
  go_wp2
  go_ret
  exact ⟨ret_int H.out, rfl⟩

set_option maxHeartbeats 400000 in
set_option maxRecDepth 100000 in
theorem sg1_any (x : Nat) (w : World) (hx : x < 4294967296) :
    Calls Try.prog 61 #[.int .u32 x] w fun e w' => e = .returned (.int .u32 (sg1 x : Nat)) ∧ w = w' := by
  have A := hideIt (rot_any x 17 w hx (by decide) (by decide))
  have B := hideIt (rot_any x 19 w hx (by decide) (by decide))
  have H := hideIt (sg1_int x hx)
  go_enter Try.func61, Try.ntmps61
  go_wp2_with fail
  refine A.out.mono ?_
  rintro e w1 ⟨rfl, rfl⟩
  go_wp2_with fail
  refine B.out.mono ?_
  rintro e w1 ⟨rfl, rfl⟩
  go_wp2
  go_ret
  exact ⟨ret_int H.out, rfl⟩

set_option maxHeartbeats 400000 in
set_option maxRecDepth 100000 in
theorem Sg0_any (x : Nat) (w : World) (hx : x < 4294967296) :
    Calls Try.prog 60 #[.int .u32 x] w fun e w' => e = .returned (.int .u32 (Sg0 x : Nat)) ∧ w = w' := by
  have A := hideIt (rot_any x 2 w hx (by decide) (by decide))
  have B := hideIt (rot_any x 13 w hx (by decide) (by decide))
  have C := hideIt (rot_any x 22 w hx (by decide) (by decide))
  have H := hideIt (Sg0_int x hx)
  go_enter Try.func60, Try.ntmps60
  go_wp2_with fail
  refine A.out.mono ?_
  rintro e w1 ⟨rfl, rfl⟩
  go_wp2_with fail
  refine B.out.mono ?_
  rintro e w1 ⟨rfl, rfl⟩
  go_wp2_with fail
  refine C.out.mono ?_
  rintro e w1 ⟨rfl, rfl⟩
  go_wp2
  go_ret
  exact ⟨ret_int H.out, rfl⟩

set_option maxHeartbeats 400000 in
set_option maxRecDepth 100000 in
theorem Sg1_any (x : Nat) (w : World) (hx : x < 4294967296) :
    Calls Try.prog 59 #[.int .u32 x] w fun e w' => e = .returned (.int .u32 (Sg1 x : Nat)) ∧ w = w' := by
  have A := hideIt (rot_any x 6 w hx (by decide) (by decide))
  have B := hideIt (rot_any x 11 w hx (by decide) (by decide))
  have C := hideIt (rot_any x 25 w hx (by decide) (by decide))
  have H := hideIt (Sg1_int x hx)
  go_enter Try.func59, Try.ntmps59
  go_wp2_with fail
  refine A.out.mono ?_
  rintro e w1 ⟨rfl, rfl⟩
  go_wp2_with fail
  refine B.out.mono ?_
  rintro e w1 ⟨rfl, rfl⟩
  go_wp2_with fail
  refine C.out.mono ?_
  rintro e w1 ⟨rfl, rfl⟩
  go_wp2
  go_ret
  exact ⟨ret_int H.out, rfl⟩

end Go.Proofs.Ytbcfpiahhippaaa

/- Arrays of words and of bytes as values and in memory; the constants. -/
namespace Go.Proofs.Ytbcfpiahhippaaa
open Go.RowKit

theorem Try.size30 : (Try.prog.info? 61).map (·.size) = some 8 := by kernel_rfl
theorem Try.size31 : (Try.prog.info? 50).map (·.size) = some 64 := by kernel_rfl
theorem Try.size52 : (Try.prog.info? 75).map (·.size) = some 64 := by kernel_rfl
theorem Try.size33 : (Try.prog.info? 63).map (·.size) = some 73 := by kernel_rfl
theorem z30 : (wl (List.replicate 8 0)).toArray = #[.int .u32 0, .int .u32 0, .int .u32 0, .int .u32 0, .int .u32 0, .int .u32 0, .int .u32 0, .int .u32 0] := rfl

set_option maxHeartbeats 800000 in
set_option maxRecDepth 100000 in
theorem first_any (w : World) : Calls Try.prog 53 #[] w fun e w' => e = .returned (.agg (wl shH).toArray) ∧ Only (fun _ => False) w w' := by
  go_enter Try.func53, Try.ntmps53
  go_wp2_with (first | (refine wpList_build_as rfl 61 _ rfl (wl shH).toArray (by kernel_rfl) ?_) | (refine wpList_store_row rfl 61 (.tmp 0) (.tmp 1) rfl w.heap.size (wl shH).toArray rfl rfl 61 (wl (List.replicate 8 0)).toArray (heap_alloc_last w _) Try.size30 rfl (wl_all _) ?_))
  refine bodyPost_ret (v := .agg (wl shH).toArray) (results_cell_row rfl _ _ w.heap.size 61 (wl shH).toArray (0, 0) _ rfl (setRow_heap _ _ _ _ 61 _ (heap_alloc_last w _)) Try.underlying61 rfl Try.size30) rfl ⟨rfl, ?_⟩
  exact ((Only.refl _ _).alloc _).setRow (fun h => absurd h (Nat.lt_irrefl _)) _
def zK : List Value := wl (List.replicate 64 0)
set_option maxHeartbeats 800000 in
set_option maxRecDepth 100000 in
theorem constants_any (w : World) : Calls Try.prog 58 #[] w fun e w' => e = .returned (.agg (wl shK).toArray) ∧ Only (fun _ => False) w w' := by
  go_enter Try.func58, Try.ntmps58
  go_wp2_with (first | (refine wpList_build_as rfl 75 _ rfl (wl shK).toArray (by kernel_rfl) ?_) | (refine wpList_store_row rfl 75 (.tmp 0) (.tmp 1) rfl w.heap.size (wl shK).toArray rfl rfl 75 zK.toArray (heap_alloc_last w _) Try.size52 (by kernel_rfl) (wl_all _) ?_))
  refine bodyPost_ret (v := .agg (wl shK).toArray) (results_cell_row rfl _ _ w.heap.size 75 (wl shK).toArray (0, 0) _ rfl (setRow_heap _ _ zK.toArray _ 75 _ (heap_alloc_last w _)) Try.underlying75 rfl Try.size52) rfl ⟨rfl, ?_⟩
  exact ((Only.refl _ _).alloc _).setRow (fun h => absurd h (Nat.lt_irrefl _)) _
end Go.Proofs.Ytbcfpiahhippaaa

/- A state's words as bytes. -/
namespace Go.Proofs.Ytbcfpiahhippaaa
open Go.RowKit

theorem ix_w8 (s : List Nat) (hs : s.length = 8) (j : Nat) (hj : j < 8) (w : World) : (Instr.index 61 (.agg (wl s).toArray) (.int .i64 j)).run Try.prog w = .ok (.int .u32 ((s.getD j 0 : Nat) : Int)) w :=
  run_index_cell 61 60 8 (wl s) j _ Try.underlying61 Try.agg29 Try.one29 hj (wl_at s j (by omega)) w
theorem ix_w64 (s : List Nat) (hs : s.length = 64) (j : Nat) (hj : j < 64) (w : World) : (Instr.index 75 (.agg (wl s).toArray) (.int .i64 j)).run Try.prog w = .ok (.int .u32 ((s.getD j 0 : Nat) : Int)) w :=
  run_index_cell 75 60 64 (wl s) j _ Try.underlying75 Try.agg29 Try.one29 hj (wl_at s j (by omega)) w
theorem ix_b64 (s : List Int) (hs : s.length = 64) (j : Nat) (hj : j < 64) (w : World) : (Instr.index 50 (.agg (bl s).toArray) (.int .i64 j)).run Try.prog w = .ok (.int .u8 (s.getD j 0)) w :=
  run_index_cell 50 5 64 (bl s) j _ Try.underlying50 Try.agg5 Try.one5 hj (bl_at s j (by omega)) w
theorem flat_next (s : List Nat) (j : Nat) (h : j < s.length) : (s.take (j + 1)).flatMap be4 = (s.take j).flatMap be4 ++ be4 (s.getD j 0) := by
  rw [take_nextN s j h, List.flatMap_append]; simp
theorem be4_bytes (x : Nat) : be4 x = [((x / 16777216 % 256 : Nat) : Int), ((x / 65536 % 256 : Nat) : Int), ((x / 256 % 256 : Nat) : Int), ((x % 256 : Nat) : Int)] := by
  have : List.range 4 = [0, 1, 2, 3] := rfl
  unfold be4
  rw [this]
  simp
def z32 : List Value := bl (List.replicate 32 0)
theorem mk32 (w : World) : (Instr.makeSlice 22 (.int .i64 0) (.int .i64 32)).run Try.prog w = .ok (.slice (some ⟨w.heap.size, 0, none⟩) 0 32) (w.alloc (.cells z32.toArray 5)) := by kernel_rfl

set_option maxHeartbeats 800000 in
set_option maxRecDepth 100000 in
theorem bytesOf_any (s : List Nat) (hs : s.length = 8) (w : World) : Calls Try.prog 56 #[.agg (wl s).toArray] w fun e w' => ∃ v, e = .returned v ∧ w'.ownsRow w.heap.size 5 1 v 32 ((s.flatMap be4).map (Value.int .u8)) ∧ Only (fun _ => False) w w' := by
  obtain ⟨i0, hi, hz0, hz1, hz2⟩ := info_parts Try.infoU8
  have HX := hideIt (ix_w8 s hs)
  have FX := hideIt (flat_next s)
  have HF : Hid ((s.take 8).flatMap be4 = s.flatMap be4) := by rw [List.take_of_length_le (by omega)]; rfl
  have HL := hideIt hs
  have hmk := mk32
  generalize hC : (wl s).toArray = C at *
  have hsz : (Try.prog.info? 61).map (·.size) = some C.size := by rw [← hC]; simp [wl_len, hs, Try.size30]
  have HSZ := hideIt hsz
  clear hC hs hsz
  go_enter Try.func56, Try.ntmps56
  go_wp2_with (refine wpList_load_row rfl 61 _ rfl w.heap.size rfl 61 C (0, 0) _ (heap_alloc2_old w _ _) Try.underlying61 rfl HSZ.out ?_)
  obtain ⟨F, hF⟩ : ∃ F : Nat → List Value, F = fun j => ((s.take j).flatMap be4).map (Value.int .u8) := ⟨_, rfl⟩
  have F0 : Hid (F 0 = []) := by rw [hF]; rfl
  have F8 : Hid (F 8 = (s.flatMap be4).map (Value.int .u8)) := by rw [hF, ← HF.out]; rfl
  have FN : Hid (∀ j, j < 8 → F (j + 1) = F j ++ (be4 (s.getD j 0)).map (Value.int .u8)) := fun j hj => by
    rw [hF]; simp only; rw [FX.out j (by rw [HL.out]; exact hj), List.map_append]
  clear hF FX HF
  go_loopw [3, 8] (fun o i wr => ∃ j : Nat, j ≤ 8 ∧ i = .int .i64 j ∧ wr.ownsRow w.heap.size 5 1 o (4 * j) (F j) ∧ Only (fun _ => False) w wr) (fun _ i _ => 8 - (intOf i).toNat)
  case atStart =>
    refine ⟨0, by omega, rfl, ?_, ((Only.refl _ _).alloc _).alloc _⟩
    rw [F0.out]
    have := World.ownsRow_made (base := w.heap.size) (e := 5) (size := 1) (w.alloc (.cells C 61)) z32.toArray 32 ((Only.refl (fun _ => False) w).alloc _).size (by decide) rfl
    rw [size_alloc] at this
    exact this
  case round =>
    obtain ⟨j, hj, rfl, hown, hon⟩ := hrel
    have hsz := hon.size
    have HON := hideIt hon
    have HOWN := hideIt hown
    clear hon hown
    by_cases hlt : j < 8
    · obtain ⟨x, hx⟩ : ∃ x, x = s.getD j 0 := ⟨_, rfl⟩
      have hix := HX.out j hlt
      have hfn := FN.out j hlt
      rw [← hx] at hix hfn
      have HFN := hideIt hfn
      have i1 : (j : Int) < 8 := by omega
      clear hx hfn
      have BL := hideIt (Bs.litN .u8 wr 5 [(x : Int) / 16777216 % 256, (x : Int) / 65536 % 256, (x : Int) / 256 % 256, (x : Int) % 256] _ _ rfl rfl)
      go_wp2_with (at_builtin; refine wpList_append_bs _ rfl _ _ 22 rfl w.heap.size 5 i0 (.int .u8 0) 1 Try.underlying22 hi hz0 hz1 hz2 rfl _ (4 * j) (F j) rfl (HOWN.out.alloc _) .u8 _ [(x : Int) / 16777216 % 256, (x : Int) / 65536 % 256, (x : Int) / 256 % 256, (x : Int) % 256] rfl BL.out (NoCap.some _ _ _) (by simp [maxLen]; omega) (by simp; omega) (by simp; omega) ?_; intro v' w2 hown' hgrow2 hnil2 hob2)
      have N1 : Hid (w2.ownsRow w.heap.size 5 1 v' (4 * (j + 1)) (F (j + 1))) := by
        rw [HFN.out, be4_bytes]; exact hown'
      have N2 : Hid (Only (fun _ => False) w w2) := (HON.out.alloc _).grown hgrow2 (fun k hk e => by have := HOWN.out.lt k e; omega)
      clear hown' hgrow2 hnil2 hob2 HOWN HON BL HFN
      go_wp2
      go_roundw
      case rel => exact ⟨j + 1, by omega, by go_num, N1.out, N2.out⟩
      case measure => simp [intOf]; omega
    · go_wp2
      go_ret
      obtain rfl : j = 8 := by omega
      rw [F8.out] at HOWN
      exact ⟨_, rfl, HOWN.out, HON.out⟩
end Go.Proofs.Ytbcfpiahhippaaa

/- append(s, make([]T, k)...), whatever k is. -/
namespace Go.Proofs.Ytbcfpiahhippaaa
open Go.RowKit

theorem wpList_append_runW {P : Program} (w : World) {ops : Array Oper} {rest : List Oper} {o : Oper} {a : Act} {Q : Exit → Act → World → Prop} (hw : Region.wanted o (yielded ops a.tmps) = true) (s x : Operand) (t tn : TypeId)
    (ho : o.op = .call { callee := .builtin .append, args := #[s, x], argTypes := #[t, tn] }) (vs vx : Value) (hs : a.eval s = vs) (hx : a.eval x = vx)
    (v' : Value) (w' : World) (hr : (Builtin.append_ #[t, tn] o.type #[vs, vx]).run P w = .ok v' w') (h : wpList P ops Q rest (a.put o.dst v') w') : wpList P ops Q (o :: rest) a w := by
  refine wpList_step fun K hK => ?_
  rw [if_pos hw]
  exact Lib.wp_append_run w s x t tn ho vs vx hs hx v' w' hr (hK _ _ h)
theorem zeros_any (w : World) (base : Nat) (ao : Option Addr) (n cap : Nat) (xs : List Int) (hn : xs.length = n) (own : w.ownsRow base 5 1 (.slice ao n cap) n (xs.map (Value.int .u8))) (k : Nat) (hk : n + k ≤ 100000) (hbase : base ≤ w.heap.size) :
    ∃ v' w', (Builtin.append_ #[22, 3] 22 #[.slice ao n cap, .int .i64 (k : Int)]).run Try.prog w = .ok v' w' ∧ Bs .u8 w' v' (xs ++ List.replicate k 0) ∧ Only (fun j => (Value.slice ao n cap).ownBlock = some j) w w' := by
  obtain ⟨i0, hi, hz0, hz1, hz2⟩ := info_parts Try.infoU8
  have hb : Bs .u8 w (.slice ao n cap) xs := Bs.of_own (by rw [hn]; exact own)
  by_cases h0 : k = 0
  · subst h0
    refine ⟨_, _, run_append_zeros_nought (P := Try.prog) w 22 3 22 5 i0 .i64 .i64 Try.underlying22 Try.underlying3 hi ao n cap ?_, ?_, Only.refl _ _⟩
    · obtain ⟨_, _, e, h, _⟩ := hb
      simp at e; obtain ⟨_, _, rfl⟩ := e; rw [hn] at h; exact h
    · rw [List.replicate_zero, List.append_nil]; exact hb
  · rcases own.2 with ⟨hv, hz⟩ | ⟨g, cap', cur, hv, _⟩
    · simp at hv
      obtain ⟨rfl, rfl, rfl⟩ := hv
      have hx : xs = [] := List.eq_nil_of_length_eq_zero hn
      subst hx
      refine ⟨_, _, Lib.run_append_nil_zeros (P := Try.prog) w 22 3 22 5 i0 (.int .u8 0) .i64 .i64 Try.underlying22 Try.underlying3 hi hz0 k (by omega) (by omega) (by omega) (by rw [hz2]; omega), ?_, ((Only.refl _ _).drew).alloc _⟩
      rw [List.nil_append]
      refine ⟨_, _, by rw [List.length_replicate], ?_, fun _ => ⟨w.heap.size, 0, rfl, fun j hj => ?_⟩⟩
      · rw [List.length_replicate]; exact grownCap_ge w k 0 5
      · rw [List.length_replicate] at hj
        have hB : (w.drew.alloc (.cells (Builtin.zeroCells (Value.int .u8 0).cells k ++ Builtin.zeroCells (Value.int .u8 0).cells (grownCap w k 0 5 - k)) 5)).heap[w.heap.size]? = some (.cells (Builtin.zeroCells (Value.int .u8 0).cells k ++ Builtin.zeroCells (Value.int .u8 0).cells (grownCap w k 0 5 - k)) 5 (0, 0)) := heap_alloc_new w.drew _
        rw [cell_of_row _ w.heap.size (0 + j) _ 5 _ hB]
        have e1 : (Builtin.zeroCells (Value.int .u8 0).cells k) = (List.replicate k (Value.int .u8 0)).toArray := by
          apply Array.toList_inj.1
          rw [show (Value.int .u8 0).cells = #[.int .u8 0] from rfl, zeroCells_one]
        rw [e1, Nat.zero_add, Array.getElem?_append_left (by simpa using hj)]
        simp [hj]
    · simp at hv
      obtain ⟨rfl, rfl⟩ := hv
      obtain ⟨v5, w5, h1, h2, h3⟩ := run_append_zeros_own (P := Try.prog) w base 22 3 22 5 i0 (.int .u8 0) .i64 .i64 1 Try.underlying22 Try.underlying3 hi hz0 hz1 hz2 rfl rfl g n cap _ own k (by omega) (by simp only [maxLen]; omega) (by omega) hbase
      refine ⟨v5, w5, h1, Bs.of_own (k := .u8) (E := 5) (lo := base) ?_, (Only.refl _ _).grown h3 (fun j hj e => e)⟩
      rw [List.length_append, List.length_replicate, hn, List.map_append, List.map_replicate]
      exact h2
end Go.Proofs.Ytbcfpiahhippaaa

/- Strings and lists of bytes: plain facts. -/
namespace Go.Proofs.Ytbcfpiahhippaaa
open Go.RowKit

def sb (s : ByteArray) : List Int := s.data.toList.map fun c => (c.toNat : Int)
theorem sb_len (s : ByteArray) : (sb s).length = s.size := by simp [sb]
theorem sb_range (s : ByteArray) : ∀ y ∈ sb s, 0 ≤ y ∧ y ≤ 255 := by
  intro y hy
  simp only [sb, List.mem_map] at hy
  obtain ⟨c, _, rfl⟩ := hy
  have := c.toNat_lt
  omega
theorem of_sb (s : ByteArray) : strOfNums (sb s) = s := by
  unfold strOfNums sb
  rw [List.map_map]
  have : s.data.toList.map ((fun n : Int => UInt8.ofNat n.toNat) ∘ fun c : UInt8 => (c.toNat : Int)) = s.data.toList := by
    refine (List.map_congr_left (g := id) (fun x _ => ?_)).trans (List.map_id _)
    simp
  rw [this]
theorem sb_of {l : List Int} (h : ∀ y ∈ l, 0 ≤ y ∧ y ≤ 255) : sb (strOfNums l) = l := by
  unfold strOfNums sb
  rw [List.map_map]
  refine (List.map_congr_left (g := id) (fun x hx => ?_)).trans (List.map_id _)
  have := h x hx
  simp only [Function.comp, id]
  rw [UInt8.toNat_ofNat']
  omega
theorem sb_inj {s t : ByteArray} (h : sb s = sb t) : s = t := by rw [← of_sb s, ← of_sb t, h]
end Go.Proofs.Ytbcfpiahhippaaa

/- Conversions: '[]byte(s)' and 'string(b)'. -/
namespace Go.Proofs.Ytbcfpiahhippaaa
open Go.RowKit

set_option maxRecDepth 100000 in
theorem bytes_of (w : World) (s : ByteArray) : ∃ c w', (convert 9 22 (.string s)).run Try.prog w = .ok (.slice (some ⟨w.heap.size, 0, none⟩) s.size c) w' ∧ Bs .u8 w' (.slice (some ⟨w.heap.size, 0, none⟩) s.size c) (sb s) ∧ Only (fun _ => False) w w' ∧ w'.heap.size = w.heap.size + 1 := by
  refine ⟨_, _, run_bytes_of_string (P := Try.prog) w 9 22 5 s Try.underlying9 Try.underlying22 Try.underlying5, ?_, ?_, ?_⟩
  · have hg := grownCap_ge w s.size 0 5
    refine ⟨some _, _, by rw [sb_len], by rw [sb_len]; omega, fun _ => ⟨w.heap.size, 0, rfl, fun j hj => ?_⟩⟩
    rw [sb_len] at hj
    rw [show w.heap.size = w.drew.heap.size from rfl, World.cell?_alloc_mark]
    simp [bytesRow, Array.getElem?_append, hj, sb, List.getD_eq_getElem?_getD]
  · exact ((Only.refl _ w).drew).alloc _
  · simp
set_option maxRecDepth 100000 in
theorem string_of (w : World) (v : Value) (xs : List Int) (h : Bs .u8 w v xs) : (convert 22 9 v).run Try.prog w = .ok (.string (strOfNums xs)) w := by
  obtain ⟨ao, cap, rfl, hl, hc⟩ := h
  cases ao with
  | none =>
    have hx : xs = [] := by
      by_cases hx : xs = []
      · exact hx
      · obtain ⟨b, off, e, _⟩ := hc hx; cases e
    subst hx
    rw [run_convert_bytes_nil w 22 5 Try.underlying22 Try.underlying5 _ _ _ Try.underlying9]
    rfl
  | some a =>
    by_cases hx : xs = []
    · subst hx
      obtain ⟨b, off, spot⟩ := a
      rw [run_convert_bytes_string w 22 9 5 _ _ _ Try.underlying22 Try.underlying5 Try.underlying9]
      have hl0 := run_loadCells_list (P := Try.prog) w ⟨b, off, spot⟩ [] (fun j u hj => by simp at hj)
      rw [List.length_nil] at *
      rw [run_bytesToString w _ 0 cap [] (by simpa using hl0)]
      rfl
    · obtain ⟨b, off, e, hcell⟩ := hc hx
      cases e
      exact run_convert_bytes_arg w 22 5 Try.underlying22 Try.underlying5 b off xs.length cap xs rfl hcell _ Try.underlying9
def bytesObj (t : ByteArray) (c : Nat) : Obj := .cells (bytesRow t c) 5 ((bytesRow t c).size, (bytesRow t c).size + 1)
theorem conv_bytes (t : ByteArray) (W : World) : (convert 9 22 (.string t)).run Try.prog W = .ok (.slice (some ⟨W.heap.size, 0, none⟩) t.size (grownCap W t.size 0 5)) (W.drew.alloc (bytesObj t (grownCap W t.size 0 5))) :=
  run_bytes_of_string (P := Try.prog) W 9 22 5 t Try.underlying9 Try.underlying22 Try.underlying5
theorem bytesObj_bs {W : World} {t : ByteArray} {b c : Nat} (h : W.heap[b]? = some (bytesObj t c)) (hc : t.size ≤ c) : Bs .u8 W (.slice (some ⟨b, 0, none⟩) t.size c) (sb t) := by
  refine ⟨some _, _, by rw [sb_len], by rw [sb_len]; omega, fun _ => ⟨b, 0, rfl, fun j hj => ?_⟩⟩
  rw [sb_len] at hj
  have e : W.cell? ⟨b, 0 + j, none⟩ = (bytesRow t c)[j]? := by rw [Nat.zero_add]; unfold World.cell?; simp only; rw [h]; rfl
  rw [e]
  simp [bytesRow, Array.getElem?_append, hj, sb, List.getD_eq_getElem?_getD]
theorem heap_alloc_old {W : World} {k : Nat} {x o : Obj} (h : W.heap[k]? = some x) : (W.alloc o).heap[k]? = some x := by
  have hk : k < W.heap.size := by
    rcases Nat.lt_or_ge k W.heap.size with h' | h'
    · exact h'
    · rw [Array.getElem?_eq_none h'] at h; cases h
  show (W.heap.push o)[k]? = _
  rw [Array.getElem?_push, if_neg (by omega)]; exact h
theorem heap_at_new {W : World} {k : Nat} {o : Obj} (h : W.heap.size = k) : (W.alloc o).heap[k]? = some o := by subst h; exact heap_alloc_new W o
theorem heap_drew_at {W : World} {k : Nat} {x : Obj} (h : W.heap[k]? = some x) : W.drew.heap[k]? = some x := h
end Go.Proofs.Ytbcfpiahhippaaa
