/- What the walks say of memory: a world that is another one but for some blocks; a slice that reads as a list of numbers. -/
import Derived.WalkKit
import Derived.Laws.BitsAllLaws
import Derived.Deep.AppendLies
import Derived.Maps.AppendAt
import Derived.Laws.AppendOwnNone
import Derived.Deep.QuietTactic
import Derived.BigQuiet
import Derived.OpenShut
namespace Go.Proofs.Ytnifflnhbpfmnaa
open Go.RowKit

theorem hideIt {p : Prop} (h : p) : Hid p := h
theorem ret_int {k : IntKind} {a b : Int} (h : a = b) : Ending.returned (.int k a) = .returned (.int k b) := by rw [h]
/-- w' is w with new blocks, and with other content in the blocks of S alone. -/
structure Only (S : Nat → Prop) (w w' : World) : Prop where
  os : w'.os = w.os
  tape : w'.tape = w.tape
  output : w'.output = w.output
  size : w.heap.size ≤ w'.heap.size
  block : ∀ k, k < w.heap.size → ¬ S k → w'.heap[k]? = w.heap[k]?

theorem Only.refl (S : Nat → Prop) (w : World) : Only S w w := ⟨rfl, rfl, rfl, Nat.le_refl _, fun _ _ _ => rfl⟩
theorem Only.trans {S T : Nat → Prop} {a b c : World} (h : Only S a b) (k : Only T b c) (hT : ∀ i, i < a.heap.size → T i → S i) : Only S a c :=
  ⟨k.os.trans h.os, k.tape.trans h.tape, k.output.trans h.output, Nat.le_trans h.size k.size,
    fun i hi hs => (k.block i (Nat.lt_of_lt_of_le hi h.size) (fun t => hs (hT i hi t))).trans (h.block i hi hs)⟩
theorem Only.mono {S T : Nat → Prop} {a b : World} (h : Only S a b) (hT : ∀ i, i < a.heap.size → S i → T i) : Only T a b :=
  ⟨h.os, h.tape, h.output, h.size, fun i hi hs => h.block i hi (fun s => hs (hT i hi s))⟩
theorem Only.drew {S : Nat → Prop} {a b : World} (h : Only S a b) : Only S a b.drew := ⟨h.os, h.tape, h.output, h.size, h.block⟩
theorem Only.alloc {S : Nat → Prop} {a b : World} (h : Only S a b) (o : Obj) : Only S a (b.alloc o) :=
  h.trans (T := fun _ => False) ⟨rfl, rfl, rfl, by simp, fun k hk _ => Below.heap_alloc _ _ _ hk⟩ (fun _ _ f => f.elim)
theorem Only.setCell {S : Nat → Prop} {a b : World} (h : Only S a b) {p : Addr} (hp : p.block < a.heap.size → S p.block) (u : Value) : Only S a (b.setCell p u) :=
  h.trans (T := fun k => k = p.block) ⟨rfl, rfl, rfl, by simp [World.setCell], fun k _ hk => Below.heap_setCell _ _ _ _ hk⟩ (fun _ hi e => by subst e; exact hp hi)
theorem Only.grown {S : Nat → Prop} {a b c : World} {row : Option Nat} (h : Only S a b) (hg : b.grownBy c row) (hr : ∀ k, k < a.heap.size → row = some k → S k) : Only S a c :=
  h.trans (T := fun k => row = some k) ⟨hg.os, hg.tape, hg.output, hg.size, fun k hk hs => hg.block k hk (fun e => hs e.symm)⟩ hr
theorem Only.below {S : Nat → Prop} {a b : World} (h : Only S a b) {B : Nat} (hB : B ≤ a.heap.size) (hS : ∀ k, S k → B ≤ k) : Below B a b :=
  ⟨h.os, h.tape, h.output, h.size, fun k hk => h.block k (by omega) (fun s => by have := hS k s; omega)⟩
theorem Only.heap {S : Nat → Prop} {a b : World} (h : Only S a b) {k : Nat} {o : Obj} (hk : a.heap[k]? = some o) (hs : ¬ S k) : b.heap[k]? = some o := by
  rw [h.block k (Array.getElem?_eq_some_iff.1 hk).1 hs]; exact hk
theorem Only.own {S : Nat → Prop} {a b : World} (h : Only S a b) {base : Nat} {e : TypeId} {size : Nat} {v : Value} {n : Nat} {xs : List Value} (ho : a.ownsRow base e size v n xs)
    (hs : ∀ k, v.ownBlock = some k → ¬ S k) : b.ownsRow base e size v n xs := by
  refine ⟨ho.1, ?_⟩
  rcases ho.2 with hn | ⟨g, cap, cur, rfl, hb, hg, rest⟩
  · exact .inl hn
  · exact .inr ⟨g, cap, cur, rfl, hb, h.heap hg (hs g rfl), rest⟩

theorem Only.drewN {S : Nat → Prop} {a b : World} (h : Only S a b) (n : Nat) : Only S a (b.drewN n) := ⟨h.os, h.tape, h.output, h.size, h.block⟩

/-- the slice v reads as the numbers xs of kind k -/
def Bs (k : IntKind) (w : World) (v : Value) (xs : List Int) : Prop :=
  ∃ ao cap, v = .slice ao xs.length cap ∧ xs.length ≤ cap ∧ (xs ≠ [] → ∃ b off, ao = some ⟨b, off, none⟩ ∧ ∀ j, j < xs.length → w.cell? ⟨b, off + j, none⟩ = some (.int k (xs.getD j 0)))

theorem Bs.of_own {k : IntKind} {w : World} {lo : Nat} {E : TypeId} {v : Value} {xs : List Int} (h : w.ownsRow lo E 1 v xs.length (xs.map (Value.int k))) : Bs k w v xs := by
  rcases h.2 with ⟨rfl, h0⟩ | ⟨g, cap, cur, rfl, _, _, hc, _⟩
  · have : xs = [] := List.eq_nil_of_length_eq_zero h0
    subst this
    exact ⟨none, 0, rfl, Nat.le_refl _, fun h => absurd rfl h⟩
  · refine ⟨_, cap, rfl, hc, fun _ => ⟨g, 0, rfl, fun j hj => ?_⟩⟩
    rw [Nat.zero_add, h.cellAt j (by omega)]
    simp [List.getElem?_eq_getElem hj]

theorem Bs.keep {k : IntKind} {w w' : World} {v : Value} {xs : List Int} (h : Bs k w v xs) {S : Nat → Prop} (ho : Only S w w') (hs : ∀ b, v.ownBlock = some b → ¬ S b) : Bs k w' v xs := by
  obtain ⟨ao, cap, rfl, hc, hr⟩ := h
  refine ⟨ao, cap, rfl, hc, fun hx => ?_⟩
  obtain ⟨b, off, rfl, hcell⟩ := hr hx
  refine ⟨b, off, rfl, fun j hj => ?_⟩
  have h0 := hcell j hj
  rw [← h0]
  exact World.cell?_of_block (ho.block b (World.block_lt_of_cell? w _ h0) (hs b rfl))

theorem only_of_below {w w' : World} (h : Below w.heap.size w w') : Only (fun _ => False) w w' := ⟨h.os, h.tape, h.output, h.size, fun k hk _ => h.block k hk⟩
theorem Only.low {w w' : World} (h : Only (fun _ => False) w w') {N : Nat} (hN : N ≤ w.heap.size) : Below N w w' := h.below hN (fun _ f => f.elim)
theorem oneCell_ints (k : IntKind) (xs : List Int) : ∀ u ∈ xs.map (Value.int k), u.oneCell' = true := by
  intro u hu; simp at hu; obtain ⟨x, _, rfl⟩ := hu; rfl

theorem Bs.len {k : IntKind} {w : World} {v : Value} {xs : List Int} (h : Bs k w v xs) : ∃ ao cap, v = .slice ao xs.length cap := by
  obtain ⟨ao, cap, rfl, _⟩ := h
  exact ⟨ao, cap, rfl⟩
theorem Bs.later {k : IntKind} {w w' : World} {v : Value} {xs : List Int} (h : Bs k w v xs) (hb : Below w.heap.size w w') : Bs k w' v xs := by
  obtain ⟨ao, cap, rfl, hc, hr⟩ := h
  refine ⟨ao, cap, rfl, hc, fun hx => ?_⟩
  obtain ⟨b, off, rfl, hcell⟩ := hr hx
  exact ⟨b, off, rfl, fun j hj => (hb.cell (p := ⟨b, off + j, none⟩) (World.block_lt_of_cell? w _ (hcell j hj))).trans (hcell j hj)⟩
theorem Bs.at {k : IntKind} {w : World} {v : Value} {xs : List Int} (h : Bs k w v xs) (j : Nat) (hj : j < xs.length) : ∃ b off cap, v = .slice (some ⟨b, off, none⟩) xs.length cap ∧ w.cell? ⟨b, off + j, none⟩ = some (.int k (xs.getD j 0)) := by
  obtain ⟨ao, cap, rfl, hc, hr⟩ := h
  obtain ⟨b, off, rfl, hcell⟩ := hr (by intro h0; subst h0; simp at hj)
  exact ⟨b, off, cap, rfl, hcell j hj⟩
theorem Bs.cut0 {k : IntKind} {w : World} {ao : Option Addr} {m n : Nat} {xs : List Int} (h : Bs k w (.slice ao m n) xs) (hn : n ≤ m) : Bs k w (.slice ao (m - n) 0) (xs.drop n) := by
  obtain ⟨ao', cap, e, hc, _⟩ := h
  simp at e
  obtain ⟨rfl, rfl, rfl⟩ := e
  have hx : xs.drop n = [] := List.drop_of_length_le (by omega)
  rw [hx]
  exact ⟨ao, 0, by simp; omega, Nat.le_refl _, fun h => absurd rfl h⟩
theorem Bs.cut {k : IntKind} {w : World} {ao : Option Addr} {m cap n : Nat} {xs : List Int} (h : Bs k w (.slice ao m cap) xs) (hn : n ≤ m) : Bs k w (.slice (ao.map (fun x => x.add n)) (m - n) (cap - n)) (xs.drop n) := by
  obtain ⟨ao', cap', e, hc, hr⟩ := h
  simp at e
  obtain ⟨rfl, rfl, rfl⟩ := e
  refine ⟨_, cap - n, by rw [List.length_drop], by rw [List.length_drop]; omega, fun hne => ?_⟩
  have hlt : n < xs.length := by
    rcases Nat.lt_or_ge n xs.length with h | h
    · exact h
    · exact absurd (List.drop_of_length_le h) hne
  obtain ⟨b, off, rfl, hcell⟩ := hr (by intro h0; subst h0; simp at hlt)
  have hadd : (⟨b, off, none⟩ : Addr).add n = ⟨b, off + n, none⟩ := by unfold Addr.add; split <;> simp_all
  refine ⟨b, off + n, by simp [hadd], fun j hj => ?_⟩
  rw [List.length_drop] at hj
  rw [Nat.add_assoc, hcell (n + j) (by omega)]
  simp [List.getD_eq_getElem?_getD]
theorem own_cut (ao : Option Addr) (m cap n m' cap' : Nat) : (Value.slice (ao.map (fun x => x.add n)) m cap).ownBlock = (Value.slice ao m' cap').ownBlock := by
  cases ao with
  | none => rfl
  | some a =>
    simp only [Option.map_some, Value.ownBlock]
    congr 1
    unfold Addr.add
    split <;> rfl
theorem Bs.of_take {k : IntKind} {w : World} {x : Addr} {len cap : Nat} {zs : List Int} (hl : len ≤ cap) (hz : zs.length = cap) (hc : ∀ i, i < zs.length → w.cell? (x.add i) = some (.int k (zs.getD i 0))) :
    Bs k w (.slice (some x) len cap) (zs.take len) := by
  have hlen : (zs.take len).length = len := by rw [List.length_take]; omega
  refine ⟨some x, cap, by rw [hlen], by omega, fun hne => ?_⟩
  have hp : 0 < zs.length := by
    cases zs with
    | nil => simp at hne
    | cons a t => simp
  obtain ⟨b, off, rfl, hcell⟩ := ints_at hc hp
  refine ⟨b, off, rfl, fun j hj => ?_⟩
  rw [hcell j (by omega)]
  congr 2
  rw [List.getD_eq_getElem?_getD, List.getD_eq_getElem?_getD, List.getElem?_take, if_pos (by omega)]
/-- a slice that leads nowhere has no room -/
def NoCap (v : Value) : Prop := ∀ m c, v = .slice none m c → c = 0
theorem NoCap.nil : NoCap (.slice none 0 0) := fun m c e => by cases e; rfl
theorem NoCap.some (a : Addr) (m c : Nat) : NoCap (.slice (some a) m c) := fun m c e => by cases e
theorem NoCap.of_own {w : World} {lo : Nat} {E : TypeId} {size : Nat} {v : Value} {n : Nat} {xs : List Value} (h : w.ownsRow lo E size v n xs) : NoCap v := by
  rcases h.2 with ⟨rfl, _⟩ | ⟨g, cap, cur, rfl, _⟩
  · exact NoCap.nil
  · exact NoCap.some _ _ _
theorem Bs.nil (k : IntKind) (w : World) : Bs k w (.slice none 0 0) [] := ⟨none, 0, rfl, Nat.le_refl _, fun h => absurd rfl h⟩
theorem Bs.news {k : IntKind} {w : World} {ad : Addr} {m cap : Nat} {xs : List Int} (h : Bs k w (.slice (some ad) m cap) xs) : ∀ j u, (xs.map (Value.int k))[j]? = some u → w.cell? (ad.add j) = some u := by
  intro j u hu
  have hj : j < xs.length := by
    have := (List.getElem?_eq_some_iff.1 hu).1
    simpa using this
  obtain ⟨b, off, cap', e1, hc⟩ := h.at j hj
  simp at e1
  obtain ⟨rfl, _, _⟩ := e1
  have hadd : (⟨b, off, none⟩ : Addr).add j = ⟨b, off + j, none⟩ := by unfold Addr.add; split <;> simp_all
  rw [hadd, hc, ← hu]
  simp [List.getElem?_eq_getElem hj]
theorem Bs.length {k : IntKind} {w : World} {ao : Option Addr} {m cap : Nat} {xs : List Int} (h : Bs k w (.slice ao m cap) xs) : m = xs.length := by
  obtain ⟨ao', cap', e, _⟩ := h
  simp at e
  exact e.2.1
/-- the first n of a slice: v[:n] -/
theorem Bs.head {k : IntKind} {w : World} {ao : Option Addr} {m cap n : Nat} {xs : List Int} (h : Bs k w (.slice ao m cap) xs) (hn : n ≤ m) : Bs k w (.slice ao n cap) (xs.take n) := by
  obtain ⟨ao', cap', e, hc, hr⟩ := h
  simp at e
  obtain ⟨rfl, rfl, rfl⟩ := e
  have hlen : (xs.take n).length = n := by rw [List.length_take]; omega
  refine ⟨_, cap, by rw [hlen], by omega, fun hne => ?_⟩
  obtain ⟨b, off, rfl, hcell⟩ := hr (by intro h0; subst h0; simp at hne)
  refine ⟨b, off, rfl, fun j hj => ?_⟩
  rw [hlen] at hj
  rw [hcell j (by omega)]
  congr 2
  rw [List.getD_eq_getElem?_getD, List.getD_eq_getElem?_getD, List.getElem?_take, if_pos hj]

theorem own_low {w : World} {lo lo' : Nat} {E : TypeId} {size : Nat} {v : Value} {n : Nat} {xs : List Value} (h : w.ownsRow lo E size v n xs) (hl : lo' ≤ lo) : w.ownsRow lo' E size v n xs := by
  refine ⟨h.1, ?_⟩
  rcases h.2 with h | ⟨g, cap, cur, e, h, r⟩
  · exact .inl h
  · exact .inr ⟨g, cap, cur, e, by omega, r⟩
/-- a literal -/
theorem Bs.lit (k : IntKind) (w : World) (E : TypeId) (xs : List Int) : Bs k (w.alloc (.cells (xs.map (Value.int k)).toArray E)) (.slice (some ⟨w.heap.size, 0, none⟩) xs.length xs.length) xs := by
  refine ⟨_, _, rfl, Nat.le_refl _, fun _ => ⟨w.heap.size, 0, rfl, fun j hj => ?_⟩⟩
  unfold World.cell?
  simp only [heap_alloc_new]
  simp [List.getElem?_eq_getElem hj]

theorem Bs.litN (k : IntKind) (w : World) (E : TypeId) (xs : List Int) (N n : Nat) (hN : w.heap.size = N) (hn : xs.length = n) : Bs k (w.alloc (.cells (xs.map (Value.int k)).toArray E)) (.slice (some ⟨N, 0, none⟩) n n) xs := by
  subst hN hn
  exact Bs.lit k w E xs
/-- the k lowest bits of a number with a sign -/
theorem i64_low (n : Int) (k : Nat) (hk : k ≤ 62) : bits .and .i64 n ((2 ^ k - 1 : Nat) : Int) = n % ((2 ^ k : Nat) : Int) := by
  have hp : 2 ^ k ≤ 2 ^ 62 := Nat.pow_le_pow_right (by omega) hk
  have h62 : (2 : Nat) ^ 62 = 4611686018427387904 := by decide
  have h0 := Nat.two_pow_pos k
  have hm : (BitVec.ofInt 64 ((2 ^ k - 1 : Nat) : Int)).toNat = 2 ^ k - 1 := ofInt_u64 _ (by omega)
  have hd : (2 ^ k : Nat) ∣ 18446744073709551616 := ⟨2 ^ (64 - k), by rw [← Nat.pow_add, show k + (64 - k) = 64 by omega]⟩
  have key : (BitVec.ofInt 64 n &&& BitVec.ofInt 64 ((2 ^ k - 1 : Nat) : Int)).toNat = (n % 18446744073709551616).toNat % 2 ^ k := by
    rw [BitVec.toNat_and, BitVec.toNat_ofInt, hm, Nat.and_two_pow_sub_one_eq_mod]; rfl
  show IntKind.i64.wrap ((BitVec.ofInt 64 n &&& BitVec.ofInt 64 ((2 ^ k - 1 : Nat) : Int)).toNat : Nat) = _
  have hlt := Nat.mod_lt (n % 18446744073709551616).toNat h0
  rw [key, IntKind.wrap_i64]
  have e : (((n % 18446744073709551616).toNat % 2 ^ k : Nat) : Int) = n % ((2 ^ k : Nat) : Int) := by
    rw [Int.natCast_emod, Int.toNat_of_nonneg (by omega)]
    exact Int.emod_emod_of_dvd n (Int.natCast_dvd_natCast.2 hd)
  rw [← e]
  omega

/-- append(s, x...): s a row of the call's own, x any slice of numbers, the nil one among them -/
theorem wpList_append_bs {P : Program} (w : World) {ops : Array Oper} {rest : List Oper} {o : Oper} {a : Act} {Q : Exit → Act → World → Prop} (hgd : o.guard = none) (s x : Operand) (t : TypeId)
    (ho : o.op = .call { callee := .builtin .append, args := #[s, x], argTypes := #[t, t] })
    (base : Nat) (e : TypeId) (i : TypeInfo) (z : Value) (bytes : Nat) (ht : P.underlying t = some (.slice e)) (hi : P.info? e = some i) (hz : i.zero = some z)
    (hsize : i.size = 1) (hby : i.bytes = bytes) (hzs : z.cells.size = 1)
    (v : Value) (n : Nat) (xs : List Value) (hs : a.eval s = v) (hown : w.ownsRow base e 1 v n xs)
    (k : IntKind) (u : Value) (ys : List Int) (hx : a.eval x = u) (hb : Bs k w u ys) (hnc : NoCap u)
    (h63 : n + ys.length ≤ maxLen) (hbytes : (n + ys.length) * bytes ≤ 140737488355328) (hbase : base ≤ w.heap.size)
    (h : ∀ v' w', w'.ownsRow base e 1 v' (n + ys.length) (xs ++ ys.map (Value.int k)) → w.grownBy w' v.ownBlock → (v' = .slice none 0 0 ↔ v = .slice none 0 0 ∧ ys.length = 0) → (v'.ownBlock = v.ownBlock ∨ v'.ownBlock = some w.heap.size) → wpList P ops Q rest (a.put o.dst v') w') :
    wpList P ops Q (o :: rest) a w := by
  obtain ⟨ao, cap, rfl⟩ := hb.len
  cases ao with
  | none =>
    have h0 : ys = [] := by
      obtain ⟨ao', cap', e1, _, hr⟩ := hb
      rcases ys with _ | ⟨y, ys⟩
      · rfl
      · obtain ⟨b, off, e2, _⟩ := hr (by simp)
        simp at e1
        rw [← e1.1] at e2; cases e2
    subst h0
    have hc : cap = 0 := hnc _ _ rfl
    subst hc
    refine wpList_append_own_none hgd s x t ho base e i 1 ht hi v n xs hs hown hx (h v w (by simpa using hown) ?_ (by simp) (.inl rfl))
    exact World.grownBy.refl _ _
  | some ad =>
    refine wpList_append_own_at w hgd s x t ho base e i z 1 bytes ht hi hz hsize hby hzs (by omega) v n xs hs hown ad ys.length cap (ys.map (Value.int k)) hx (by simp) hb.news (oneCell_ints _ _) h63 hbytes hbase h
/-- numbers of 64 bits -/
def U64 (xs : List Int) : Prop := ∀ x ∈ xs, 0 ≤ x ∧ x ≤ 18446744073709551615
theorem Only.same {a b c : World} (h : Only (fun _ => False) a b) (k : Only (fun _ => False) b c) : Only (fun _ => False) a c := h.trans k (fun _ _ f => f)
theorem Bs.past {k : IntKind} {w w' : World} {v : Value} {xs : List Int} (h : Bs k w v xs) (o : Only (fun _ => False) w w') : Bs k w' v xs := h.keep o (fun _ _ f => f)
/-- how long a slice is -/
def slen : Value → Nat
  | .slice _ n _ => n
  | _ => 0
theorem Bs.blk_lt {k : IntKind} {w : World} {v : Value} {xs : List Int} (h : Bs k w v xs) (hx : xs ≠ []) : ∀ j, v.ownBlock = some j → j < w.heap.size := by
  obtain ⟨ao, cap, rfl, hc, hr⟩ := h
  obtain ⟨b, off, rfl, hcell⟩ := hr hx
  intro j hj
  simp [Value.ownBlock] at hj
  subst hj
  exact World.block_lt_of_cell? w _ (hcell 0 (List.length_pos_iff.2 hx))
theorem Bs.formN {k : IntKind} {w : World} {v : Value} {xs : List Int} (h : Bs k w v xs) {n : Nat} (hn : xs.length = n) : ∃ ao cap, v = .slice ao n cap ∧ n ≤ cap := by
  obtain ⟨ao, cap, e, hc, _⟩ := h
  exact ⟨ao, cap, by rw [e, hn], by omega⟩
theorem Bs.nocap {k : IntKind} {w : World} {v : Value} {xs : List Int} (h : Bs k w v xs) (hx : xs ≠ []) : NoCap v := by
  obtain ⟨ao, cap, rfl, _, hr⟩ := h
  obtain ⟨b, off, rfl, _⟩ := hr hx
  exact NoCap.some _ _ _
theorem Bs.room {k : IntKind} {w : World} {ao : Option Addr} {m cap : Nat} {xs : List Int} (h : Bs k w (.slice ao m cap) xs) : m ≤ cap := by
  obtain ⟨ao', cap', e, hc, _⟩ := h
  simp at e
  obtain ⟨rfl, rfl, rfl⟩ := e
  exact hc
theorem NoCap.cut {ao : Option Addr} {m cap : Nat} (h : NoCap (.slice ao m cap)) (m' : Nat) : NoCap (.slice ao m' cap) := fun _ _ e => by
  cases e; exact h _ _ rfl
end Go.Proofs.Ytnifflnhbpfmnaa
