/- Several texts in one: Base, Clone, Same, Same2, SameB, Iu8, Apb, Math, Len, Zr, Sh. -/
import Derived.WalkKit
import Derived.Laws.BitsAllLaws
import Derived.Deep.AppendLies
import Derived.Maps.AppendAt
import Derived.Laws.AppendOwnNone
import Derived.Deep.QuietTactic
import Derived.BigQuiet
import Derived.OpenShut
import Derived.Test.YtbcfpiahhippaaaProg
import Derived.WalkSpells
import Derived.BigRegion
import Derived.Deep.RegionHeld3
import Derived.Deep.RegionLaw
import Derived.Lib.AppendZerosOnto

/- What the walks say of memory: a world that is another one but for some blocks; a slice that reads as a list of numbers. -/
namespace Go.Proofs.Ytbcfpiahhippaaa
open Go.RowKit

theorem hideIt {p : Prop} (h : p) : Hid p := h
theorem ret_int {k : IntKind} {a b : Int} (h : a = b) : Ending.returned (.int k a) = .returned (.int k b) := by rw [h]
/-- w' is w with new blocks, and with other content in the blocks of S alone. -/
structure Only (S : Nat → Prop) (w w' : World) : Prop where
  os : w'.os = w.os
  tape : w'.tape = w.tape
  output : w'.output = w.output
  size : w.heap.size ≤ w'.heap.size
  block : ∀ k, k < w.heap.size → ¬ S k → w'.heap[k]? = w.heap[k]?

theorem Only.refl (S : Nat → Prop) (w : World) : Only S w w := ⟨rfl, rfl, rfl, Nat.le_refl _, fun _ _ _ => rfl⟩
theorem Only.trans {S T : Nat → Prop} {a b c : World} (h : Only S a b) (k : Only T b c) (hT : ∀ i, i < a.heap.size → T i → S i) : Only S a c :=
  ⟨k.os.trans h.os, k.tape.trans h.tape, k.output.trans h.output, Nat.le_trans h.size k.size,
    fun i hi hs => (k.block i (Nat.lt_of_lt_of_le hi h.size) (fun t => hs (hT i hi t))).trans (h.block i hi hs)⟩
theorem Only.mono {S T : Nat → Prop} {a b : World} (h : Only S a b) (hT : ∀ i, i < a.heap.size → S i → T i) : Only T a b :=
  ⟨h.os, h.tape, h.output, h.size, fun i hi hs => h.block i hi (fun s => hs (hT i hi s))⟩
theorem Only.drew {S : Nat → Prop} {a b : World} (h : Only S a b) : Only S a b.drew := ⟨h.os, h.tape, h.output, h.size, h.block⟩
theorem Only.alloc {S : Nat → Prop} {a b : World} (h : Only S a b) (o : Obj) : Only S a (b.alloc o) :=
  h.trans (T := fun _ => False) ⟨rfl, rfl, rfl, by simp, fun k hk _ => Below.heap_alloc _ _ _ hk⟩ (fun _ _ f => f.elim)
theorem Only.setCell {S : Nat → Prop} {a b : World} (h : Only S a b) {p : Addr} (hp : p.block < a.heap.size → S p.block) (u : Value) : Only S a (b.setCell p u) :=
  h.trans (T := fun k => k = p.block) ⟨rfl, rfl, rfl, by simp [World.setCell], fun k _ hk => Below.heap_setCell _ _ _ _ hk⟩ (fun _ hi e => by subst e; exact hp hi)
theorem Only.grown {S : Nat → Prop} {a b c : World} {row : Option Nat} (h : Only S a b) (hg : b.grownBy c row) (hr : ∀ k, k < a.heap.size → row = some k → S k) : Only S a c :=
  h.trans (T := fun k => row = some k) ⟨hg.os, hg.tape, hg.output, hg.size, fun k hk hs => hg.block k hk (fun e => hs e.symm)⟩ hr
theorem Only.below {S : Nat → Prop} {a b : World} (h : Only S a b) {B : Nat} (hB : B ≤ a.heap.size) (hS : ∀ k, S k → B ≤ k) : Below B a b :=
  ⟨h.os, h.tape, h.output, h.size, fun k hk => h.block k (by omega) (fun s => by have := hS k s; omega)⟩
theorem Only.heap {S : Nat → Prop} {a b : World} (h : Only S a b) {k : Nat} {o : Obj} (hk : a.heap[k]? = some o) (hs : ¬ S k) : b.heap[k]? = some o := by
  rw [h.block k (Array.getElem?_eq_some_iff.1 hk).1 hs]; exact hk
theorem Only.own {S : Nat → Prop} {a b : World} (h : Only S a b) {base : Nat} {e : TypeId} {size : Nat} {v : Value} {n : Nat} {xs : List Value} (ho : a.ownsRow base e size v n xs)
    (hs : ∀ k, v.ownBlock = some k → ¬ S k) : b.ownsRow base e size v n xs := by
  refine ⟨ho.1, ?_⟩
  rcases ho.2 with hn | ⟨g, cap, cur, rfl, hb, hg, rest⟩
  · exact .inl hn
  · exact .inr ⟨g, cap, cur, rfl, hb, h.heap hg (hs g rfl), rest⟩

theorem Only.drewN {S : Nat → Prop} {a b : World} (h : Only S a b) (n : Nat) : Only S a (b.drewN n) := ⟨h.os, h.tape, h.output, h.size, h.block⟩

/-- the slice v reads as the numbers xs of kind k -/
def Bs (k : IntKind) (w : World) (v : Value) (xs : List Int) : Prop :=
  ∃ ao cap, v = .slice ao xs.length cap ∧ xs.length ≤ cap ∧ (xs ≠ [] → ∃ b off, ao = some ⟨b, off, none⟩ ∧ ∀ j, j < xs.length → w.cell? ⟨b, off + j, none⟩ = some (.int k (xs.getD j 0)))

theorem Bs.of_own {k : IntKind} {w : World} {lo : Nat} {E : TypeId} {v : Value} {xs : List Int} (h : w.ownsRow lo E 1 v xs.length (xs.map (Value.int k))) : Bs k w v xs := by
  rcases h.2 with ⟨rfl, h0⟩ | ⟨g, cap, cur, rfl, _, _, hc, _⟩
  · have : xs = [] := List.eq_nil_of_length_eq_zero h0
    subst this
    exact ⟨none, 0, rfl, Nat.le_refl _, fun h => absurd rfl h⟩
  · refine ⟨_, cap, rfl, hc, fun _ => ⟨g, 0, rfl, fun j hj => ?_⟩⟩
    rw [Nat.zero_add, h.cellAt j (by omega)]
    simp [List.getElem?_eq_getElem hj]

theorem Bs.keep {k : IntKind} {w w' : World} {v : Value} {xs : List Int} (h : Bs k w v xs) {S : Nat → Prop} (ho : Only S w w') (hs : ∀ b, v.ownBlock = some b → ¬ S b) : Bs k w' v xs := by
  obtain ⟨ao, cap, rfl, hc, hr⟩ := h
  refine ⟨ao, cap, rfl, hc, fun hx => ?_⟩
  obtain ⟨b, off, rfl, hcell⟩ := hr hx
  refine ⟨b, off, rfl, fun j hj => ?_⟩
  have h0 := hcell j hj
  rw [← h0]
  exact World.cell?_of_block (ho.block b (World.block_lt_of_cell? w _ h0) (hs b rfl))

theorem only_of_below {w w' : World} (h : Below w.heap.size w w') : Only (fun _ => False) w w' := ⟨h.os, h.tape, h.output, h.size, fun k hk _ => h.block k hk⟩
theorem Only.low {w w' : World} (h : Only (fun _ => False) w w') {N : Nat} (hN : N ≤ w.heap.size) : Below N w w' := h.below hN (fun _ f => f.elim)
theorem oneCell_ints (k : IntKind) (xs : List Int) : ∀ u ∈ xs.map (Value.int k), u.oneCell' = true := by
  intro u hu; simp at hu; obtain ⟨x, _, rfl⟩ := hu; rfl

theorem Bs.len {k : IntKind} {w : World} {v : Value} {xs : List Int} (h : Bs k w v xs) : ∃ ao cap, v = .slice ao xs.length cap := by
  obtain ⟨ao, cap, rfl, _⟩ := h
  exact ⟨ao, cap, rfl⟩
theorem Bs.later {k : IntKind} {w w' : World} {v : Value} {xs : List Int} (h : Bs k w v xs) (hb : Below w.heap.size w w') : Bs k w' v xs := by
  obtain ⟨ao, cap, rfl, hc, hr⟩ := h
  refine ⟨ao, cap, rfl, hc, fun hx => ?_⟩
  obtain ⟨b, off, rfl, hcell⟩ := hr hx
  exact ⟨b, off, rfl, fun j hj => (hb.cell (p := ⟨b, off + j, none⟩) (World.block_lt_of_cell? w _ (hcell j hj))).trans (hcell j hj)⟩
theorem Bs.at {k : IntKind} {w : World} {v : Value} {xs : List Int} (h : Bs k w v xs) (j : Nat) (hj : j < xs.length) : ∃ b off cap, v = .slice (some ⟨b, off, none⟩) xs.length cap ∧ w.cell? ⟨b, off + j, none⟩ = some (.int k (xs.getD j 0)) := by
  obtain ⟨ao, cap, rfl, hc, hr⟩ := h
  obtain ⟨b, off, rfl, hcell⟩ := hr (by intro h0; subst h0; simp at hj)
  exact ⟨b, off, cap, rfl, hcell j hj⟩
theorem Bs.cut0 {k : IntKind} {w : World} {ao : Option Addr} {m n : Nat} {xs : List Int} (h : Bs k w (.slice ao m n) xs) (hn : n ≤ m) : Bs k w (.slice ao (m - n) 0) (xs.drop n) := by
  obtain ⟨ao', cap, e, hc, _⟩ := h
  simp at e
  obtain ⟨rfl, rfl, rfl⟩ := e
  have hx : xs.drop n = [] := List.drop_of_length_le (by omega)
  rw [hx]
  exact ⟨ao, 0, by simp; omega, Nat.le_refl _, fun h => absurd rfl h⟩
theorem Bs.cut {k : IntKind} {w : World} {ao : Option Addr} {m cap n : Nat} {xs : List Int} (h : Bs k w (.slice ao m cap) xs) (hn : n ≤ m) : Bs k w (.slice (ao.map (fun x => x.add n)) (m - n) (cap - n)) (xs.drop n) := by
  obtain ⟨ao', cap', e, hc, hr⟩ := h
  simp at e
  obtain ⟨rfl, rfl, rfl⟩ := e
  refine ⟨_, cap - n, by rw [List.length_drop], by rw [List.length_drop]; omega, fun hne => ?_⟩
  have hlt : n < xs.length := by
    rcases Nat.lt_or_ge n xs.length with h | h
    · exact h
    · exact absurd (List.drop_of_length_le h) hne
  obtain ⟨b, off, rfl, hcell⟩ := hr (by intro h0; subst h0; simp at hlt)
  have hadd : (⟨b, off, none⟩ : Addr).add n = ⟨b, off + n, none⟩ := by unfold Addr.add; split <;> simp_all
  refine ⟨b, off + n, by simp [hadd], fun j hj => ?_⟩
  rw [List.length_drop] at hj
  rw [Nat.add_assoc, hcell (n + j) (by omega)]
  simp [List.getD_eq_getElem?_getD]
theorem own_cut (ao : Option Addr) (m cap n m' cap' : Nat) : (Value.slice (ao.map (fun x => x.add n)) m cap).ownBlock = (Value.slice ao m' cap').ownBlock := by
  cases ao with
  | none => rfl
  | some a =>
    simp only [Option.map_some, Value.ownBlock]
    congr 1
    unfold Addr.add
    split <;> rfl
theorem Bs.of_take {k : IntKind} {w : World} {x : Addr} {len cap : Nat} {zs : List Int} (hl : len ≤ cap) (hz : zs.length = cap) (hc : ∀ i, i < zs.length → w.cell? (x.add i) = some (.int k (zs.getD i 0))) :
    Bs k w (.slice (some x) len cap) (zs.take len) := by
  have hlen : (zs.take len).length = len := by rw [List.length_take]; omega
  refine ⟨some x, cap, by rw [hlen], by omega, fun hne => ?_⟩
  have hp : 0 < zs.length := by
    cases zs with
    | nil => simp at hne
    | cons a t => simp
  obtain ⟨b, off, rfl, hcell⟩ := ints_at hc hp
  refine ⟨b, off, rfl, fun j hj => ?_⟩
  rw [hcell j (by omega)]
  congr 2
  rw [List.getD_eq_getElem?_getD, List.getD_eq_getElem?_getD, List.getElem?_take, if_pos (by omega)]
/-- a slice that leads nowhere has no room -/
def NoCap (v : Value) : Prop := ∀ m c, v = .slice none m c → c = 0
theorem NoCap.nil : NoCap (.slice none 0 0) := fun m c e => by cases e; rfl
theorem NoCap.some (a : Addr) (m c : Nat) : NoCap (.slice (some a) m c) := fun m c e => by cases e
theorem NoCap.of_own {w : World} {lo : Nat} {E : TypeId} {size : Nat} {v : Value} {n : Nat} {xs : List Value} (h : w.ownsRow lo E size v n xs) : NoCap v := by
  rcases h.2 with ⟨rfl, _⟩ | ⟨g, cap, cur, rfl, _⟩
  · exact NoCap.nil
  · exact NoCap.some _ _ _
theorem Bs.nil (k : IntKind) (w : World) : Bs k w (.slice none 0 0) [] := ⟨none, 0, rfl, Nat.le_refl _, fun h => absurd rfl h⟩
theorem Bs.news {k : IntKind} {w : World} {ad : Addr} {m cap : Nat} {xs : List Int} (h : Bs k w (.slice (some ad) m cap) xs) : ∀ j u, (xs.map (Value.int k))[j]? = some u → w.cell? (ad.add j) = some u := by
  intro j u hu
  have hj : j < xs.length := by
    have := (List.getElem?_eq_some_iff.1 hu).1
    simpa using this
  obtain ⟨b, off, cap', e1, hc⟩ := h.at j hj
  simp at e1
  obtain ⟨rfl, _, _⟩ := e1
  have hadd : (⟨b, off, none⟩ : Addr).add j = ⟨b, off + j, none⟩ := by unfold Addr.add; split <;> simp_all
  rw [hadd, hc, ← hu]
  simp [List.getElem?_eq_getElem hj]
theorem Bs.length {k : IntKind} {w : World} {ao : Option Addr} {m cap : Nat} {xs : List Int} (h : Bs k w (.slice ao m cap) xs) : m = xs.length := by
  obtain ⟨ao', cap', e, _⟩ := h
  simp at e
  exact e.2.1
/-- the first n of a slice: v[:n] -/
theorem Bs.head {k : IntKind} {w : World} {ao : Option Addr} {m cap n : Nat} {xs : List Int} (h : Bs k w (.slice ao m cap) xs) (hn : n ≤ m) : Bs k w (.slice ao n cap) (xs.take n) := by
  obtain ⟨ao', cap', e, hc, hr⟩ := h
  simp at e
  obtain ⟨rfl, rfl, rfl⟩ := e
  have hlen : (xs.take n).length = n := by rw [List.length_take]; omega
  refine ⟨_, cap, by rw [hlen], by omega, fun hne => ?_⟩
  obtain ⟨b, off, rfl, hcell⟩ := hr (by intro h0; subst h0; simp at hne)
  refine ⟨b, off, rfl, fun j hj => ?_⟩
  rw [hlen] at hj
  rw [hcell j (by omega)]
  congr 2
  rw [List.getD_eq_getElem?_getD, List.getD_eq_getElem?_getD, List.getElem?_take, if_pos hj]

theorem own_low {w : World} {lo lo' : Nat} {E : TypeId} {size : Nat} {v : Value} {n : Nat} {xs : List Value} (h : w.ownsRow lo E size v n xs) (hl : lo' ≤ lo) : w.ownsRow lo' E size v n xs := by
  refine ⟨h.1, ?_⟩
  rcases h.2 with h | ⟨g, cap, cur, e, h, r⟩
  · exact .inl h
  · exact .inr ⟨g, cap, cur, e, by omega, r⟩
/-- a literal -/
theorem Bs.lit (k : IntKind) (w : World) (E : TypeId) (xs : List Int) : Bs k (w.alloc (.cells (xs.map (Value.int k)).toArray E)) (.slice (some ⟨w.heap.size, 0, none⟩) xs.length xs.length) xs := by
  refine ⟨_, _, rfl, Nat.le_refl _, fun _ => ⟨w.heap.size, 0, rfl, fun j hj => ?_⟩⟩
  unfold World.cell?
  simp only [heap_alloc_new]
  simp [List.getElem?_eq_getElem hj]

theorem Bs.litN (k : IntKind) (w : World) (E : TypeId) (xs : List Int) (N n : Nat) (hN : w.heap.size = N) (hn : xs.length = n) : Bs k (w.alloc (.cells (xs.map (Value.int k)).toArray E)) (.slice (some ⟨N, 0, none⟩) n n) xs := by
  subst hN hn
  exact Bs.lit k w E xs
/-- the k lowest bits of a number with a sign -/
theorem i64_low (n : Int) (k : Nat) (hk : k ≤ 62) : bits .and .i64 n ((2 ^ k - 1 : Nat) : Int) = n % ((2 ^ k : Nat) : Int) := by
  have hp : 2 ^ k ≤ 2 ^ 62 := Nat.pow_le_pow_right (by omega) hk
  have h62 : (2 : Nat) ^ 62 = 4611686018427387904 := by decide
  have h0 := Nat.two_pow_pos k
  have hm : (BitVec.ofInt 64 ((2 ^ k - 1 : Nat) : Int)).toNat = 2 ^ k - 1 := ofInt_u64 _ (by omega)
  have hd : (2 ^ k : Nat) ∣ 18446744073709551616 := ⟨2 ^ (64 - k), by rw [← Nat.pow_add, show k + (64 - k) = 64 by omega]⟩
  have key : (BitVec.ofInt 64 n &&& BitVec.ofInt 64 ((2 ^ k - 1 : Nat) : Int)).toNat = (n % 18446744073709551616).toNat % 2 ^ k := by
    rw [BitVec.toNat_and, BitVec.toNat_ofInt, hm, Nat.and_two_pow_sub_one_eq_mod]; rfl
  show IntKind.i64.wrap ((BitVec.ofInt 64 n &&& BitVec.ofInt 64 ((2 ^ k - 1 : Nat) : Int)).toNat : Nat) = _
  have hlt := Nat.mod_lt (n % 18446744073709551616).toNat h0
  rw [key, IntKind.wrap_i64]
  have e : (((n % 18446744073709551616).toNat % 2 ^ k : Nat) : Int) = n % ((2 ^ k : Nat) : Int) := by
    rw [Int.natCast_emod, Int.toNat_of_nonneg (by omega)]
    exact Int.emod_emod_of_dvd n (Int.natCast_dvd_natCast.2 hd)
  rw [← e]
  omega

/-- append(s, x...): s a row of the call's own, x any slice of numbers, the nil one among them -/
theorem wpList_append_bs {P : Program} (w : World) {ops : Array Oper} {rest : List Oper} {o : Oper} {a : Act} {Q : Exit → Act → World → Prop} (hgd : o.guard = none) (s x : Operand) (t : TypeId)
    (ho : o.op = .call { callee := .builtin .append, args := #[s, x], argTypes := #[t, t] })
    (base : Nat) (e : TypeId) (i : TypeInfo) (z : Value) (bytes : Nat) (ht : P.underlying t = some (.slice e)) (hi : P.info? e = some i) (hz : i.zero = some z)
    (hsize : i.size = 1) (hby : i.bytes = bytes) (hzs : z.cells.size = 1)
    (v : Value) (n : Nat) (xs : List Value) (hs : a.eval s = v) (hown : w.ownsRow base e 1 v n xs)
    (k : IntKind) (u : Value) (ys : List Int) (hx : a.eval x = u) (hb : Bs k w u ys) (hnc : NoCap u)
    (h63 : n + ys.length ≤ maxLen) (hbytes : (n + ys.length) * bytes ≤ 140737488355328) (hbase : base ≤ w.heap.size)
    (h : ∀ v' w', w'.ownsRow base e 1 v' (n + ys.length) (xs ++ ys.map (Value.int k)) → w.grownBy w' v.ownBlock → (v' = .slice none 0 0 ↔ v = .slice none 0 0 ∧ ys.length = 0) → (v'.ownBlock = v.ownBlock ∨ v'.ownBlock = some w.heap.size) → wpList P ops Q rest (a.put o.dst v') w') :
    wpList P ops Q (o :: rest) a w := by
  obtain ⟨ao, cap, rfl⟩ := hb.len
  cases ao with
  | none =>
    have h0 : ys = [] := by
      obtain ⟨ao', cap', e1, _, hr⟩ := hb
      rcases ys with _ | ⟨y, ys⟩
      · rfl
      · obtain ⟨b, off, e2, _⟩ := hr (by simp)
        simp at e1
        rw [← e1.1] at e2; cases e2
    subst h0
    have hc : cap = 0 := hnc _ _ rfl
    subst hc
    refine wpList_append_own_none hgd s x t ho base e i 1 ht hi v n xs hs hown hx (h v w (by simpa using hown) ?_ (by simp) (.inl rfl))
    exact World.grownBy.refl _ _
  | some ad =>
    refine wpList_append_own_at w hgd s x t ho base e i z 1 bytes ht hi hz hsize hby hzs (by omega) v n xs hs hown ad ys.length cap (ys.map (Value.int k)) hx (by simp) hb.news (oneCell_ints _ _) h63 hbytes hbase h
/-- numbers of 64 bits -/
def U64 (xs : List Int) : Prop := ∀ x ∈ xs, 0 ≤ x ∧ x ≤ 18446744073709551615
theorem Only.same {a b c : World} (h : Only (fun _ => False) a b) (k : Only (fun _ => False) b c) : Only (fun _ => False) a c := h.trans k (fun _ _ f => f)
theorem Bs.past {k : IntKind} {w w' : World} {v : Value} {xs : List Int} (h : Bs k w v xs) (o : Only (fun _ => False) w w') : Bs k w' v xs := h.keep o (fun _ _ f => f)
/-- how long a slice is -/
def slen : Value → Nat
  | .slice _ n _ => n
  | _ => 0
theorem Bs.blk_lt {k : IntKind} {w : World} {v : Value} {xs : List Int} (h : Bs k w v xs) (hx : xs ≠ []) : ∀ j, v.ownBlock = some j → j < w.heap.size := by
  obtain ⟨ao, cap, rfl, hc, hr⟩ := h
  obtain ⟨b, off, rfl, hcell⟩ := hr hx
  intro j hj
  simp [Value.ownBlock] at hj
  subst hj
  exact World.block_lt_of_cell? w _ (hcell 0 (List.length_pos_iff.2 hx))
end Go.Proofs.Ytbcfpiahhippaaa

/- Contract of slices.Clone of bytes: new memory, the same bytes. -/
namespace Go.Proofs.Ytbcfpiahhippaaa
open Go.RowKit

theorem Try.infoC8 : (Try.prog.info? 5).map (fun i => (i.zero, i.size, i.bytes)) = some (some (.int .u8 0), 1, 1) := by kernel_rfl
set_option maxHeartbeats 400000 in
set_option maxRecDepth 100000 in
theorem clone_nil (c : Nat) (w : World) : Calls Try.prog 26 #[.slice none 0 c] w fun e w' => e = .returned (.slice none 0 0) ∧ w = w' := by
  have hnil : ∀ W, (binOp .eql 22 (.slice none 0 c) (.slice none 0 0)).run Try.prog W = .ok (.bool true) W := fun W => by
    rw [Lib.run_eql_slice_nil W 22 5 none 0 c 0 0 Try.underlying22]; rfl
  go_enter Try.func26, Try.ntmps26
  go_wp2
  go_ret
  exact ⟨rfl, rfl⟩

set_option maxHeartbeats 400000 in
set_option maxRecDepth 100000 in
theorem clone_some (ad : Addr) (m c : Nat) (news : List Value) (w : World) (hl : news.length = m) (hnews : ∀ j u, news[j]? = some u → w.cell? (ad.add j) = some u) (h1 : ∀ u ∈ news, u.oneCell' = true) (hm : m ≤ 140737488355328) :
    Calls Try.prog 26 #[.slice (some ad) m c] w fun e w' => ∃ v', e = .returned v' ∧ w'.ownsRow w.heap.size 5 1 v' m news ∧ Only (fun _ => False) w w' ∧ v' ≠ .slice none 0 0 := by
  obtain ⟨i0, hi, hz0, hz1, hz2⟩ := info_parts Try.infoC8
  have hnil : ∀ W, (binOp .eql 22 (.slice (some ad) m c) (.slice none 0 0)).run Try.prog W = .ok (.bool false) W := fun W => by
    rw [Lib.run_eql_slice_nil W 22 5 (some ad) m c 0 0 Try.underlying22]; rfl
  have ho := World.ownsRow_made (base := w.heap.size) (e := 5) (size := 1) w #[] 0 (Nat.le_refl _) (by unfold maxLen; omega) rfl
  have HN : Hid (∀ j u, news[j]? = some u → w.cell? (ad.add j) = some u) := hnews
  clear hnews
  go_enter Try.func26, Try.ntmps26
  go_wp2_with (at_builtin; refine wpList_append_own_at _ rfl _ _ _ rfl w.heap.size 5 i0 (.int .u8 0) 1 1 Try.underlying22 hi hz0 hz1 hz2 rfl (by omega) (.slice (some ⟨w.heap.size, 0, none⟩) 0 0) 0 [] rfl ho ad m c news rfl ?c0 ?c1 h1 ?c3 ?c4 ?c5 ?_)
  case c0 => omega
  case c1 =>
    intro j u hu
    have h0 := HN.out j u hu
    rw [World.cell?_of_block (Below.heap_alloc w _ _ (World.block_lt_of_cell? w _ h0))]; exact h0
  case c3 => unfold maxLen; omega
  case c4 => omega
  case c5 => simp
  intro v' w1 hown1 hgrow hnn hat
  have FIN : Hid (w1.ownsRow w.heap.size 5 1 v' m news ∧ Only (fun _ => False) w w1 ∧ v' ≠ .slice none 0 0) := by
    refine ⟨by simpa using hown1, ((Only.refl _ _).alloc _).grown hgrow (fun k hk e => ?_), hnn⟩
    simp [Value.ownBlock] at e
    omega
  clear hown1 hgrow hnn hat ho
  go_wp2
  go_ret
  exact ⟨v', rfl, FIN.out⟩

/-- A COPY of a slice of bytes: new memory, the same bytes. -/
theorem clone_bs (v : Value) (xs : List Int) (w : World) (h : Bs .u8 w v xs) (hm : xs.length ≤ 140737488355328) :
    Calls Try.prog 26 #[v] w fun e w' => ∃ v', e = .returned v' ∧ w'.ownsRow w.heap.size 5 1 v' xs.length (xs.map (Value.int .u8)) ∧ Only (fun _ => False) w w' := by
  obtain ⟨ao, cap, rfl, hc, hr⟩ := h
  cases ao with
  | none =>
    have hx : xs = [] := by
      cases xs with
      | nil => rfl
      | cons a t => obtain ⟨b, off, h, _⟩ := hr (by simp); cases h
    subst hx
    refine (clone_nil cap w).mono ?_
    rintro e w' ⟨rfl, rfl⟩
    exact ⟨_, rfl, World.ownsRow_nil _ _ _ _, Only.refl _ _⟩
  | some ad =>
    refine (clone_some ad xs.length cap (xs.map (Value.int .u8)) w (by simp) ?_ (oneCell_ints _ _) hm).mono ?_
    · intro j u hu
      have hj : j < xs.length := by
        have := (List.getElem?_eq_some_iff.1 hu).1
        simpa using this
      obtain ⟨b, off, hb, hcell⟩ := hr (by intro h; subst h; simp at hj)
      cases hb
      have hadd : (⟨b, off, none⟩ : Addr).add j = ⟨b, off + j, none⟩ := by unfold Addr.add; split <;> simp_all
      rw [hadd, hcell j hj]
      rw [← hu]
      simp [List.getElem?_eq_getElem hj]
    · rintro e w' ⟨v', rfl, h1, h2, _⟩
      exact ⟨v', rfl, h1, h2⟩

end Go.Proofs.Ytbcfpiahhippaaa

/- Contract of the reference's Same: equal bytes are the same. -/
namespace Go.Proofs.Ytbcfpiahhippaaa
open Go.RowKit

set_option maxHeartbeats 400000 in
set_option maxRecDepth 100000 in
/-- EQUAL BYTES ARE THE SAME. -/
theorem same_eq (va vb : Value) (xs : List Int) (w : World) (ha : Bs .u8 w va xs) (hb : Bs .u8 w vb xs) (hl : xs.length ≤ 140737488355328) :
    Calls Try.prog 24 #[va, vb] w fun e w' => e = .returned (.bool true) ∧ Only (fun _ => False) w w' := by
  obtain ⟨aoa, ca, rfl, hca, hra⟩ := ha
  obtain ⟨aob, cb, rfl, hcb, hrb⟩ := hb
  have hbn : ((xs.length : Int) != (xs.length : Int)) = false := by simp
  by_cases hx : xs = []
  · subst hx
    clear hra hrb
    simp only [List.length_nil]
    go_enter Try.func24, Try.ntmps24
    go_wp2
    go_loop [5] (fun i => i = .int .i64 0) (fun _ => 0)
    case atStart => rfl
    case round =>
      subst hrel
      go_wp2
      go_ret
      exact ⟨rfl, Only.refl _ _⟩
  · obtain ⟨ba, oa, rfl, hcella⟩ := hra hx
    obtain ⟨bb, ob, rfl, hcellb⟩ := hrb hx
    clear hra hrb hx
    obtain ⟨n, hn⟩ : ∃ n, n = xs.length := ⟨_, rfl⟩
    rw [← hn] at hbn hca hcb hcella hcellb hl ⊢
    have HA : Hid (∀ j, j < n → w.cell? ⟨ba, oa + j, none⟩ = some (.int .u8 (xs.getD j 0))) := hcella
    have HB : Hid (∀ j, j < n → w.cell? ⟨bb, ob + j, none⟩ = some (.int .u8 (xs.getD j 0))) := hcellb
    clear hcella hcellb hn
    go_enter Try.func24, Try.ntmps24
    go_wp2
    go_loopw [5] (fun i wr => ∃ k : Nat, k ≤ n ∧ i = .int .i64 k ∧ Only (fun _ => False) w wr) (fun i _ => n - (intOf i).toNat)
    case atStart => exact ⟨0, Nat.zero_le _, rfl, Only.refl _ _⟩
    case round =>
      obtain ⟨k, hk, rfl, hon⟩ := hrel
      by_cases hlt : k < n
      · obtain ⟨y, hy⟩ : ∃ y, y = xs.getD k 0 := ⟨_, rfl⟩
        have h1 : wr.cell? ⟨ba, oa + k, none⟩ = some (.int .u8 y) := by
          have := HA.out k hlt
          rw [World.cell?_of_block (hon.block ba (World.block_lt_of_cell? w _ this) (fun f => f)), hy]; exact this
        have h2 : wr.cell? ⟨bb, ob + k, none⟩ = some (.int .u8 y) := by
          have := HB.out k hlt
          rw [World.cell?_of_block (hon.block bb (World.block_lt_of_cell? w _ this) (fun f => f)), hy]; exact this
        have i0 : (0 : Int) ≤ (k : Int) := by omega
        have i1 : (k : Int) < (n : Int) := by omega
        have hy1 : (y != y) = false := by simp
        clear hy
        go_wp2
        go_quiet (fail)
        go_wp2
        go_roundw
        case rel => exact ⟨k + 1, by omega, by go_num, hon.drewN nq⟩
        case measure => simp [intOf]; omega
      · go_wp2
        go_ret
        exact ⟨rfl, hon⟩
end Go.Proofs.Ytbcfpiahhippaaa

/- The reference's Same of any two slices of bytes: whether they are the same; nothing is written. -/
namespace Go.Proofs.Ytbcfpiahhippaaa
open Go.RowKit

set_option maxHeartbeats 400000 in
set_option maxRecDepth 100000 in
theorem same_len (va vb : Value) (xs ys : List Int) (w : World) (ha : Bs .u8 w va xs) (hb : Bs .u8 w vb ys) (h : xs.length ≠ ys.length) :
    Calls Try.prog 24 #[va, vb] w fun e w' => e = .returned (.bool false) ∧ Only (fun _ => False) w w' := by
  obtain ⟨aoa, ca, rfl⟩ := ha.len
  obtain ⟨aob, cb, rfl⟩ := hb.len
  have hbn : ((xs.length : Int) != (ys.length : Int)) = true := by simp; omega
  clear ha hb h
  generalize xs.length = n at *
  generalize ys.length = m at *
  go_enter Try.func24, Try.ntmps24
  go_wp2
  go_ret
  exact ⟨rfl, Only.refl _ _⟩

set_option maxHeartbeats 400000 in
set_option maxRecDepth 100000 in
/-- as many, and one differs -/
theorem same_ne (va vb : Value) (xs ys : List Int) (w : World) (ha : Bs .u8 w va xs) (hb : Bs .u8 w vb ys) (hlen : ys.length = xs.length) (hl : xs.length ≤ 140737488355328) (hne : xs ≠ ys) :
    Calls Try.prog 24 #[va, vb] w fun e w' => e = .returned (.bool false) ∧ Only (fun _ => False) w w' := by
  obtain ⟨aoa, ca, rfl, hca, hra⟩ := ha
  obtain ⟨aob, cb, rfl, hcb, hrb⟩ := hb
  have hx : xs ≠ [] := by
    intro h0; subst h0
    exact hne (List.eq_nil_of_length_eq_zero hlen).symm
  have hy : ys ≠ [] := by
    intro h0; subst h0
    exact hx (List.eq_nil_of_length_eq_zero hlen.symm)
  obtain ⟨ba, oa, rfl, hcella⟩ := hra hx
  obtain ⟨bb, ob, rfl, hcellb⟩ := hrb hy
  have HD : Hid (¬ ∀ j, j < xs.length → xs.getD j 0 = ys.getD j 0) := by
    intro h
    apply hne
    apply List.ext_getElem hlen.symm
    intro i h1 h2
    have := h i h1
    rw [List.getD_eq_getElem?_getD, List.getD_eq_getElem?_getD, List.getElem?_eq_getElem h1, List.getElem?_eq_getElem h2] at this
    exact this
  rw [hlen] at hcb hcellb ⊢
  have hbn : ((xs.length : Int) != (xs.length : Int)) = false := by simp
  clear hra hrb hx hy hne hlen
  obtain ⟨n, hn⟩ : ∃ n, n = xs.length := ⟨_, rfl⟩
  rw [← hn] at hbn hca hcb hcella hcellb hl HD ⊢
  have HA : Hid (∀ j, j < n → w.cell? ⟨ba, oa + j, none⟩ = some (.int .u8 (xs.getD j 0))) := hcella
  have HB : Hid (∀ j, j < n → w.cell? ⟨bb, ob + j, none⟩ = some (.int .u8 (ys.getD j 0))) := hcellb
  clear hcella hcellb hn
  go_enter Try.func24, Try.ntmps24
  go_wp2
  go_loopw [5] (fun i wr => ∃ k : Nat, k ≤ n ∧ i = .int .i64 k ∧ Only (fun _ => False) w wr ∧ ∀ j, j < k → xs.getD j 0 = ys.getD j 0) (fun i _ => n - (intOf i).toNat)
  case atStart => exact ⟨0, Nat.zero_le _, rfl, Only.refl _ _, fun j hj => absurd hj (by omega)⟩
  case round =>
    obtain ⟨k, hk, rfl, hon, hall⟩ := hrel
    have HALL := hideIt hall
    clear hall
    by_cases hlt : k < n
    · obtain ⟨y, hy⟩ : ∃ y, y = xs.getD k 0 := ⟨_, rfl⟩
      obtain ⟨z, hz⟩ : ∃ z, z = ys.getD k 0 := ⟨_, rfl⟩
      have h1 : wr.cell? ⟨ba, oa + k, none⟩ = some (.int .u8 y) := by
        have := HA.out k hlt
        rw [World.cell?_of_block (hon.block ba (World.block_lt_of_cell? w _ this) (fun f => f)), hy]; exact this
      have h2 : wr.cell? ⟨bb, ob + k, none⟩ = some (.int .u8 z) := by
        have := HB.out k hlt
        rw [World.cell?_of_block (hon.block bb (World.block_lt_of_cell? w _ this) (fun f => f)), hz]; exact this
      have i0 : (0 : Int) ≤ (k : Int) := by omega
      have i1 : (k : Int) < (n : Int) := by omega
      by_cases hyz : y = z
      · have HE := hideIt (show xs.getD k 0 = ys.getD k 0 by rw [← hy, ← hz]; exact hyz)
        subst hyz
        have hy1 : (y != y) = false := by simp
        clear hy hz
        go_wp2
        go_quiet (fail)
        go_wp2
        go_roundw
        case rel => exact ⟨k + 1, by omega, by go_num, hon.drewN nq, fun j hj => by
          rcases Nat.lt_or_ge j k with h | h
          · exact HALL.out j h
          · rw [show j = k by omega]; exact HE.out⟩
        case measure => simp [intOf]; omega
      · have hy1 : (y != z) = true := by simpa using hyz
        clear hy hz hyz
        go_wp2
        go_quiet (fail)
        go_wp2
        go_ret
        exact ⟨rfl, hon.drewN nq⟩
    · exact absurd (fun j hj => HALL.out j (by omega)) HD.out

theorem same_any (va vb : Value) (xs ys : List Int) (w : World) (ha : Bs .u8 w va xs) (hb : Bs .u8 w vb ys) (hl : xs.length ≤ 140737488355328) :
    Calls Try.prog 24 #[va, vb] w fun e w' => e = .returned (.bool (decide (xs = ys))) ∧ Only (fun _ => False) w w' := by
  by_cases h : xs = ys
  · subst h
    rw [decide_eq_true rfl]
    exact same_eq va vb xs w ha hb hl
  · rw [decide_eq_false h]
    by_cases hlen : ys.length = xs.length
    · exact same_ne va vb xs ys w ha hb hlen hl h
    · exact same_len va vb xs ys w ha hb (fun e => hlen e.symm)
end Go.Proofs.Ytbcfpiahhippaaa

/- Contract of the reference's Same: equal bytes are the same, and nothing is written. -/
namespace Go.Proofs.Ytbcfpiahhippaaa
open Go.RowKit

set_option maxHeartbeats 400000 in
set_option maxRecDepth 100000 in
/-- EQUAL BYTES ARE THE SAME: nothing is written. -/
theorem bsame_q (va vb : Value) (xs : List Int) (w : World) (ha : Bs .u8 w va xs) (hb : Bs .u8 w vb xs) (hl : xs.length ≤ 140737488355328) :
    Calls Try.prog 24 #[va, vb] w fun e w' => e = .returned (.bool true) ∧ ∃ m, w' = w.drewN m := by
  obtain ⟨aoa, ca, rfl, hca, hra⟩ := ha
  obtain ⟨aob, cb, rfl, hcb, hrb⟩ := hb
  have hbn : ((xs.length : Int) != (xs.length : Int)) = false := by simp
  by_cases hx : xs = []
  · subst hx
    clear hra hrb
    simp only [List.length_nil]
    go_enter Try.func24, Try.ntmps24
    go_wp2
    go_loop [5] (fun i => i = .int .i64 0) (fun _ => 0)
    case atStart => rfl
    case round =>
      subst hrel
      go_wp2
      go_ret
      exact ⟨rfl, 0, rfl⟩
  · obtain ⟨ba, oa, rfl, hcella⟩ := hra hx
    obtain ⟨bb, ob, rfl, hcellb⟩ := hrb hx
    clear hra hrb hx
    obtain ⟨n, hn⟩ : ∃ n, n = xs.length := ⟨_, rfl⟩
    rw [← hn] at hbn hca hcb hcella hcellb hl ⊢
    have HA : Hid (∀ j, j < n → w.cell? ⟨ba, oa + j, none⟩ = some (.int .u8 (xs.getD j 0))) := hcella
    have HB : Hid (∀ j, j < n → w.cell? ⟨bb, ob + j, none⟩ = some (.int .u8 (xs.getD j 0))) := hcellb
    clear hcella hcellb hn
    go_enter Try.func24, Try.ntmps24
    go_wp2
    go_loopw [5] (fun i wr => ∃ k : Nat, k ≤ n ∧ i = .int .i64 k ∧ ∃ m, wr = w.drewN m) (fun i _ => n - (intOf i).toNat)
    case atStart => exact ⟨0, Nat.zero_le _, rfl, 0, rfl⟩
    case round =>
      obtain ⟨k, hk, rfl, md, hmd⟩ := hrel
      have hon : Only (fun _ => False) w wr := by rw [hmd]; exact (Only.refl _ _).drewN md
      have HMD := hideIt hmd
      clear hmd
      by_cases hlt : k < n
      · obtain ⟨y, hy⟩ : ∃ y, y = xs.getD k 0 := ⟨_, rfl⟩
        have h1 : wr.cell? ⟨ba, oa + k, none⟩ = some (.int .u8 y) := by
          have := HA.out k hlt
          rw [World.cell?_of_block (hon.block ba (World.block_lt_of_cell? w _ this) (fun f => f)), hy]; exact this
        have h2 : wr.cell? ⟨bb, ob + k, none⟩ = some (.int .u8 y) := by
          have := HB.out k hlt
          rw [World.cell?_of_block (hon.block bb (World.block_lt_of_cell? w _ this) (fun f => f)), hy]; exact this
        have i0 : (0 : Int) ≤ (k : Int) := by omega
        have i1 : (k : Int) < (n : Int) := by omega
        have hy1 : (y != y) = false := by simp
        clear hy
        go_wp2
        go_quiet (fail)
        go_wp2
        go_roundw
        case rel => exact ⟨k + 1, by omega, by go_num, md + nq, by rw [HMD.out, World.drewN_drewN]⟩
        case measure => simp [intOf]; omega
      · go_wp2
        go_ret
        exact ⟨rfl, md, HMD.out⟩
theorem bsame_eq (va vb : Value) (xs : List Int) (w : World) (ha : Bs .u8 w va xs) (hb : Bs .u8 w vb xs) (hl : xs.length ≤ 140737488355328) :
    Calls Try.prog 24 #[va, vb] w fun e w' => e = .returned (.bool true) ∧ Only (fun _ => False) w w' := by
  refine (bsame_q va vb xs w ha hb hl).mono ?_
  rintro e w' ⟨rfl, m, rfl⟩
  exact ⟨rfl, (Only.refl _ _).drewN m⟩

end Go.Proofs.Ytbcfpiahhippaaa

/- The zero of a byte. -/
namespace Go.Proofs.Ytbcfpiahhippaaa

theorem Try.infoU8 : (Try.prog.info? 5).map (fun i => (i.zero, i.size, i.bytes)) = some (some (.int .u8 0), 1, 1) := by kernel_rfl
end Go.Proofs.Ytbcfpiahhippaaa

/- append, as one step of a region that draws, or behind a guard: what holds in every seat. -/
namespace Go.Proofs.Ytbcfpiahhippaaa
open Go.RowKit

/-- append(s, x...): s a row of the call's own, x any slice of numbers, the nil one among them: as one step -/
theorem wp_append_bs {P : Program} {w : World} {o : Oper} {a : Act} {K : Act → World → Prop} {Q : Exit → Act → World → Prop} (s x : Operand) (t : TypeId)
    (ho : o.op = .call { callee := .builtin .append, args := #[s, x], argTypes := #[t, t] })
    (base : Nat) (e : TypeId) (i : TypeInfo) (z : Value) (bytes : Nat) (ht : P.underlying t = some (.slice e)) (hi : P.info? e = some i) (hz : i.zero = some z)
    (hsize : i.size = 1) (hby : i.bytes = bytes) (hzs : z.cells.size = 1)
    (v : Value) (n : Nat) (xs : List Value) (hs : a.eval s = v) (hown : w.ownsRow base e 1 v n xs)
    (k : IntKind) (u : Value) (ys : List Int) (hx : a.eval x = u) (hb : Bs k w u ys) (hnc : NoCap u)
    (h63 : n + ys.length ≤ maxLen) (hbytes : (n + ys.length) * bytes ≤ 140737488355328) (hbase : base ≤ w.heap.size)
    (h : ∀ v' w', w'.ownsRow base e 1 v' (n + ys.length) (xs ++ ys.map (Value.int k)) → w.grownBy w' v.ownBlock → K (a.put o.dst v') w') :
    Oper.wp P o a w K Q := by
  obtain ⟨ao, cap, rfl⟩ := hb.len
  cases ao with
  | none =>
    have h0 : ys = [] := by
      obtain ⟨ao', cap', e1, _, hr⟩ := hb
      rcases ys with _ | ⟨y, ys⟩
      · rfl
      · obtain ⟨b, off, e2, _⟩ := hr (by simp)
        simp at e1
        rw [← e1.1] at e2; cases e2
    subst h0
    have hc : cap = 0 := hnc _ _ rfl
    subst hc
    have hrun := run_append_owned_none (P := P) (w := w) base t o.type e i 1 ht hi v n xs hown
    have hK := h v w (by simpa using hown) (World.grownBy.refl _ _)
    unfold Oper.wp
    simp [execOp, ho, resolve, invoke, builtin, hs, hx, hrun, Result.andThen]
    exact hK
  | some ad =>
    obtain ⟨v', w', hrun, r1, r2, _⟩ := run_append_own_at (P := P) w base t o.type e i z 1 bytes ht hi hz hsize hby hzs (by omega) v n xs hown ad ys.length cap (ys.map (Value.int k)) (by simp) hb.news (oneCell_ints _ _) h63 hbytes hbase
    unfold Oper.wp
    simp [execOp, ho, resolve, invoke, builtin, hs, hx, hrun, Result.andThen]
    exact h v' w' r1 r2
/-- .. in a region that draws -/
theorem step_append_bs {P : Program} {w : World} {ops : Array Oper} {o : Oper} {a : Act} {K : Act → World → Prop} {Q : Exit → Act → World → Prop} {E : Prop} (hgd : o.guard = none) (s x : Operand) (t : TypeId)
    (ho : o.op = .call { callee := .builtin .append, args := #[s, x], argTypes := #[t, t] })
    (base : Nat) (e : TypeId) (i : TypeInfo) (z : Value) (bytes : Nat) (ht : P.underlying t = some (.slice e)) (hi : P.info? e = some i) (hz : i.zero = some z)
    (hsize : i.size = 1) (hby : i.bytes = bytes) (hzs : z.cells.size = 1)
    (v : Value) (n : Nat) (xs : List Value) (hs : a.eval s = v) (hown : w.ownsRow base e 1 v n xs)
    (k : IntKind) (u : Value) (ys : List Int) (hx : a.eval x = u) (hb : Bs k w u ys) (hnc : NoCap u)
    (h63 : n + ys.length ≤ maxLen) (hbytes : (n + ys.length) * bytes ≤ 140737488355328) (hbase : base ≤ w.heap.size)
    (h : ∀ v' w', w'.ownsRow base e 1 v' (n + ys.length) (xs ++ ys.map (Value.int k)) → w.grownBy w' v.ownBlock → K (a.put o.dst v') w') :
    if Region.wanted o (yielded ops a.tmps) = true then Oper.wp P o a w K Q else E := by
  have hw : Region.wanted o (yielded ops a.tmps) = true := by simp [Region.wanted, hgd]
  rw [if_pos hw]
  exact wp_append_bs s x t ho base e i z bytes ht hi hz hsize hby hzs v n xs hs hown k u ys hx hb hnc h63 hbytes hbase h
/-- .. where it is asked for behind an 'and' or an 'or' -/
theorem wpList_append_bsW {P : Program} (w : World) {ops : Array Oper} {rest : List Oper} {o : Oper} {a : Act} {Q : Exit → Act → World → Prop} (hw : Region.wanted o (yielded ops a.tmps) = true) (s x : Operand) (t : TypeId)
    (ho : o.op = .call { callee := .builtin .append, args := #[s, x], argTypes := #[t, t] })
    (base : Nat) (e : TypeId) (i : TypeInfo) (z : Value) (bytes : Nat) (ht : P.underlying t = some (.slice e)) (hi : P.info? e = some i) (hz : i.zero = some z)
    (hsize : i.size = 1) (hby : i.bytes = bytes) (hzs : z.cells.size = 1)
    (v : Value) (n : Nat) (xs : List Value) (hs : a.eval s = v) (hown : w.ownsRow base e 1 v n xs)
    (k : IntKind) (u : Value) (ys : List Int) (hx : a.eval x = u) (hb : Bs k w u ys) (hnc : NoCap u)
    (h63 : n + ys.length ≤ maxLen) (hbytes : (n + ys.length) * bytes ≤ 140737488355328) (hbase : base ≤ w.heap.size)
    (h : ∀ v' w', w'.ownsRow base e 1 v' (n + ys.length) (xs ++ ys.map (Value.int k)) → w.grownBy w' v.ownBlock → wpList P ops Q rest (a.put o.dst v') w') :
    wpList P ops Q (o :: rest) a w := by
  refine wpList_step fun K hK => ?_
  rw [if_pos hw]
  exact wp_append_bs s x t ho base e i z bytes ht hi hz hsize hby hzs v n xs hs hown k u ys hx hb hnc h63 hbytes hbase (fun v' w' h1 h2 => hK _ _ (h v' w' h1 h2))
end Go.Proofs.Ytbcfpiahhippaaa


/- Plain facts on bits, bytes and widths: no program is named here. -/
namespace Go.Proofs.Ytbcfpiahhippaaa

/-- how many bits a number needs -/
def wid (v : Nat) : Nat := if v = 0 then 0 else v.log2 + 1

theorem wid_le_iff (v n : Nat) : wid v ≤ n ↔ v < 2 ^ n := by
  unfold wid
  by_cases h : v = 0
  · subst h; simp [Nat.two_pow_pos]
  · rw [if_neg h]; rw [← Nat.log2_lt h]; omega

theorem wid_ext {v n : Nat} (h : ∀ m, n ≤ m ↔ v < 2 ^ m) : wid v = n := by
  have h1 : wid v ≤ n := (wid_le_iff v n).2 ((h n).1 (Nat.le_refl _))
  have h2 : n ≤ wid v := (h (wid v)).2 ((wid_le_iff v (wid v)).1 (Nat.le_refl _))
  omega

theorem wid_div (v k : Nat) (h : 2 ^ k ≤ v) : wid v = wid (v / 2 ^ k) + k := by
  refine wid_ext fun m => ?_
  by_cases hm : k ≤ m
  · have e : 2 ^ m = 2 ^ (m - k) * 2 ^ k := by rw [← Nat.pow_add]; congr 1; omega
    rw [e, ← Nat.div_lt_iff_lt_mul (Nat.two_pow_pos k), ← wid_le_iff]; omega
  · have : 2 ^ m ≤ 2 ^ k := Nat.pow_le_pow_right (by omega) (by omega)
    constructor
    · intro hk; omega
    · intro hk; omega

theorem wid_half (v : Nat) (h : 0 < v) : wid v = wid (v / 2) + 1 := by
  rcases Nat.lt_or_ge v 2 with h2 | h2
  · have : v = 1 := by omega
    subst this; decide
  · have := wid_div v 1 (by simpa using h2); simpa using this

theorem wid_le64 (v : Nat) (h : v < 18446744073709551616) : wid v ≤ 64 := (wid_le_iff v 64).2 (by simpa using h)

def len8tab : ByteArray := ⟨#[0, 1, 2, 2, 3, 3, 3, 3, 4, 4, 4, 4, 4, 4, 4, 4, 5, 5, 5, 5, 5, 5, 5, 5, 5, 5, 5, 5, 5, 5, 5, 5, 6, 6, 6, 6, 6, 6, 6, 6, 6, 6, 6, 6, 6, 6, 6, 6, 6, 6, 6, 6, 6, 6, 6, 6, 6, 6, 6, 6, 6, 6, 6, 6, 7, 7, 7, 7, 7, 7, 7, 7, 7, 7, 7, 7, 7, 7, 7, 7, 7, 7, 7, 7, 7, 7, 7, 7, 7, 7, 7, 7, 7, 7, 7, 7, 7, 7, 7, 7, 7, 7, 7, 7, 7, 7, 7, 7, 7, 7, 7, 7, 7, 7, 7, 7, 7, 7, 7, 7, 7, 7, 7, 7, 7, 7, 7, 7, 8, 8, 8, 8, 8, 8, 8, 8, 8, 8, 8, 8, 8, 8, 8, 8, 8, 8, 8, 8, 8, 8, 8, 8, 8, 8, 8, 8, 8, 8, 8, 8, 8, 8, 8, 8, 8, 8, 8, 8, 8, 8, 8, 8, 8, 8, 8, 8, 8, 8, 8, 8, 8, 8, 8, 8, 8, 8, 8, 8, 8, 8, 8, 8, 8, 8, 8, 8, 8, 8, 8, 8, 8, 8, 8, 8, 8, 8, 8, 8, 8, 8, 8, 8, 8, 8, 8, 8, 8, 8, 8, 8, 8, 8, 8, 8, 8, 8, 8, 8, 8, 8, 8, 8, 8, 8, 8, 8, 8, 8, 8, 8, 8, 8, 8, 8, 8, 8, 8, 8, 8, 8, 8, 8, 8, 8, 8, 8]⟩
theorem len8tab_all : ∀ k : Fin 256, (len8tab.data.toList.getD k.val 0).toNat = wid k.val := by decide +kernel
theorem len8tab_size : len8tab.size = 256 := by decide +kernel
theorem len8tab_at (k : Nat) (h : k < 256) (hk : k < len8tab.size) : (len8tab[k]'hk).toNat = wid k := by
  have := len8tab_all ⟨k, h⟩
  simp only at this
  rw [← this]
  congr 1
  show len8tab.data[k]'hk = _
  rw [List.getD_eq_getElem?_getD, List.getElem?_eq_getElem (by simpa using hk)]
  simp

/-- what the table and the shifts come to -/
theorem wid_tab (v : Int) (d c : Nat) (hv : 0 ≤ v) (hk : (v / ((2 ^ d : Nat) : Int)).toNat < 256) (hd : d = 0 ∨ ((2 ^ d : Nat) : Int) ≤ v) (hc : c = d) :
    wid v.toNat = wid (v / ((2 ^ d : Nat) : Int)).toNat + c := by
  subst hc
  have e : (v / ((2 ^ c : Nat) : Int)).toNat = v.toNat / 2 ^ c := by
    obtain ⟨n, rfl⟩ := Int.eq_ofNat_of_zero_le hv
    rw [← Int.natCast_ediv]; rfl
  rw [e]
  rcases hd with rfl | hd
  · simp
  · exact wid_div _ _ (by omega)
end Go.Proofs.Ytbcfpiahhippaaa

/- Contract of math/bits' Len64: how many bits a number needs. -/
namespace Go.Proofs.Ytbcfpiahhippaaa
open Go.RowKit

theorem len8_lit (k : Nat) (h : k < 256) (hk : k < (⟨#[0, 1, 2, 2, 3, 3, 3, 3, 4, 4, 4, 4, 4, 4, 4, 4, 5, 5, 5, 5, 5, 5, 5, 5, 5, 5, 5, 5, 5, 5, 5, 5, 6, 6, 6, 6, 6, 6, 6, 6, 6, 6, 6, 6, 6, 6, 6, 6, 6, 6, 6, 6, 6, 6, 6, 6, 6, 6, 6, 6, 6, 6, 6, 6, 7, 7, 7, 7, 7, 7, 7, 7, 7, 7, 7, 7, 7, 7, 7, 7, 7, 7, 7, 7, 7, 7, 7, 7, 7, 7, 7, 7, 7, 7, 7, 7, 7, 7, 7, 7, 7, 7, 7, 7, 7, 7, 7, 7, 7, 7, 7, 7, 7, 7, 7, 7, 7, 7, 7, 7, 7, 7, 7, 7, 7, 7, 7, 7, 8, 8, 8, 8, 8, 8, 8, 8, 8, 8, 8, 8, 8, 8, 8, 8, 8, 8, 8, 8, 8, 8, 8, 8, 8, 8, 8, 8, 8, 8, 8, 8, 8, 8, 8, 8, 8, 8, 8, 8, 8, 8, 8, 8, 8, 8, 8, 8, 8, 8, 8, 8, 8, 8, 8, 8, 8, 8, 8, 8, 8, 8, 8, 8, 8, 8, 8, 8, 8, 8, 8, 8, 8, 8, 8, 8, 8, 8, 8, 8, 8, 8, 8, 8, 8, 8, 8, 8, 8, 8, 8, 8, 8, 8, 8, 8, 8, 8, 8, 8, 8, 8, 8, 8, 8, 8, 8, 8, 8, 8, 8, 8, 8, 8, 8, 8, 8, 8, 8, 8, 8, 8, 8, 8, 8, 8, 8, 8]⟩ : ByteArray).size) : ((⟨#[0, 1, 2, 2, 3, 3, 3, 3, 4, 4, 4, 4, 4, 4, 4, 4, 5, 5, 5, 5, 5, 5, 5, 5, 5, 5, 5, 5, 5, 5, 5, 5, 6, 6, 6, 6, 6, 6, 6, 6, 6, 6, 6, 6, 6, 6, 6, 6, 6, 6, 6, 6, 6, 6, 6, 6, 6, 6, 6, 6, 6, 6, 6, 6, 7, 7, 7, 7, 7, 7, 7, 7, 7, 7, 7, 7, 7, 7, 7, 7, 7, 7, 7, 7, 7, 7, 7, 7, 7, 7, 7, 7, 7, 7, 7, 7, 7, 7, 7, 7, 7, 7, 7, 7, 7, 7, 7, 7, 7, 7, 7, 7, 7, 7, 7, 7, 7, 7, 7, 7, 7, 7, 7, 7, 7, 7, 7, 7, 8, 8, 8, 8, 8, 8, 8, 8, 8, 8, 8, 8, 8, 8, 8, 8, 8, 8, 8, 8, 8, 8, 8, 8, 8, 8, 8, 8, 8, 8, 8, 8, 8, 8, 8, 8, 8, 8, 8, 8, 8, 8, 8, 8, 8, 8, 8, 8, 8, 8, 8, 8, 8, 8, 8, 8, 8, 8, 8, 8, 8, 8, 8, 8, 8, 8, 8, 8, 8, 8, 8, 8, 8, 8, 8, 8, 8, 8, 8, 8, 8, 8, 8, 8, 8, 8, 8, 8, 8, 8, 8, 8, 8, 8, 8, 8, 8, 8, 8, 8, 8, 8, 8, 8, 8, 8, 8, 8, 8, 8, 8, 8, 8, 8, 8, 8, 8, 8, 8, 8, 8, 8, 8, 8, 8, 8, 8, 8]⟩ : ByteArray)[k]'hk).toNat = wid k := len8tab_at k h hk

theorem wid_256 (k : Nat) (h : k < 256) : wid k ≤ 8 := (wid_le_iff k 8).2 (by simpa using h)

theorem wid_sh (v m : Int) (k : Nat) (hm : m = ((2 ^ k : Nat) : Int)) (h0 : 0 ≤ v) (h : m ≤ v) : wid v.toNat = wid (v / m).toNat + k := by
  subst hm
  have e : (v / ((2 ^ k : Nat) : Int)).toNat = v.toNat / 2 ^ k := by
    obtain ⟨n, rfl⟩ := Int.eq_ofNat_of_zero_le h0
    rw [← Int.natCast_ediv]; rfl
  rw [e]; exact wid_div _ _ (by omega)

theorem wclose (a : Int) (n : Nat) (ha : n ≤ 8) (h : 0 ≤ a) (h2 : a ≤ 56) : wrap64 (a + wrap64 n) = a + n := by
  rw [IntWalk.wrap64_in (n : Int) (by omega), IntWalk.wrap64_in _ (by omega)]
theorem wclose0 (n : Nat) (ha : n ≤ 8) : wrap64 (wrap64 n) = n := by
  rw [IntWalk.wrap64_in (n : Int) (by omega), IntWalk.wrap64_in _ (by omega)]

end Go.Proofs.Ytbcfpiahhippaaa

/- A law of no program: append(s, make([]T, k)...) where s is a row of the call's own. -/
namespace Go.Proofs.Ytbcfpiahhippaaa
open Go.RowKit

theorem zeroCells_one (z : Value) (k : Nat) : (Builtin.zeroCells #[z] k).toList = List.replicate k z := by
  apply List.ext_getElem
  · simp [Builtin.zeroCells]
  · intro j h1 h2
    simp [Builtin.zeroCells, Nat.mod_one]
theorem run_append_zeros_own {P : Program} (w : World) (base : Nat) (t tn ty e : TypeId) (i : TypeInfo) (z : Value) (kq kn : IntKind) (bytes : Nat) (ht : P.underlying t = some (.slice e)) (htn : P.underlying tn = some (.int kn)) (hi : P.info? e = some i) (hz : i.zero = some z)
    (hsize : i.size = 1) (hby : i.bytes = bytes) (hzc : z.cells = #[z]) (hz1 : z.oneCell' = true) (g n cap : Nat) (xs : List Value) (hown : w.ownsRow base e 1 (.slice (some ⟨g, 0, none⟩) n cap) n xs)
    (k : Nat) (h0 : 0 < k) (h63 : n + k ≤ maxLen) (hbytes : (n + k) * bytes ≤ 140737488355328) (hbase : base ≤ w.heap.size) :
    ∃ v' w', (Builtin.append_ #[t, tn] ty #[.slice (some ⟨g, 0, none⟩) n cap, .int kq k]).run P w = .ok v' w' ∧ w'.ownsRow base e 1 v' (n + k) (xs ++ List.replicate k z) ∧ w.grownBy w' (some g) := by
  subst hby
  have hlen : (xs ++ List.replicate k z).length = (n + k) * 1 := by rw [List.length_append, hown.1, List.length_replicate]; omega
  have hk2 : k * i.bytes ≤ 281474976710656 := by
    have : k * i.bytes ≤ (n + k) * i.bytes := Nat.mul_le_mul_right _ (by omega)
    omega
  rcases hown.2 with ⟨hv, _⟩ | ⟨g', cap', cur, hv, hbg, hg, hnc, hcm, hcs, htake⟩
  · cases hv
  · simp only [Value.slice.injEq, Option.some.injEq, Addr.mk.injEq] at hv
    obtain ⟨⟨rfl, _⟩, _, rfl⟩ := hv
    by_cases hroom : n + k ≤ cap
    · have hst := run_storeCells_at P g (n * 1) e (List.replicate k z) 0 cur w hg (by simp [hcs]; omega) (by intro u hu; rw [List.eq_of_mem_replicate hu]; exact hz1)
      simp only [Nat.add_zero] at hst
      have hk : k ≠ 0 := by omega
      have hw : IntKind.i64.wrap (k : Int) = k := by rw [IntKind.wrap_i64]; simp only [maxLen] at h63; omega
      have h48i : ¬ (281474976710656 < (k : Int) * (i.bytes : Int)) := by
        rw [← Int.natCast_mul]
        omega
      have hneg : ¬ ((k : Int) < 0) := by omega
      have hzl := zeroCells_one z k
      refine ⟨.slice (some ⟨g, 0, none⟩) (n + k) cap, w.setRow g (cur.toList.take (n * 1) ++ List.replicate k z ++ cur.toList.drop (n * 1 + (List.replicate k z).length)).toArray, ?_, ⟨hlen, .inr ⟨g, cap, _, rfl, hbg, setRow_heap w g cur _ e _ hg, hroom, hcm, ?_, ?_⟩⟩, ⟨rfl, rfl, rfl, by simp, fun j _ hj => setRow_other w g j _ (fun e => hj (by rw [e]))⟩⟩
      · simp [Builtin.append_, run_underlying ht, run_underlying htn, sizeOf, typeInfo, zeroValue, hi, hz, hsize, asInt, asIntOf, hw, hneg, hk, h48i, hroom, Addr.add_lit, hzc, hzl]
        simp at hst
        rw [hst]
        rfl
      · simp only [List.size_toArray, List.length_append, List.length_take, List.length_drop, Array.length_toList, List.length_replicate]
        omega
      · rw [htake, ← hlen]
        exact List.take_left
    · have holds : ∀ j u, xs[j]? = some u → w.drew.cell? ((⟨g, 0, none⟩ : Addr).add j) = some u := hown.cells (g := g) rfl
      have hf := run_firstCells_some (P := P) w.drew i.size n ⟨g, 0, none⟩ n cap xs (by rw [hsize]; exact hown.1) holds
      have hr := Lib.run_append_grow_zeros (P := P) w t tn ty e i z kq kn ht htn hi hz (some ⟨g, 0, none⟩) n cap xs hf k h0 (by omega) (by omega) (by simp only [maxLen] at h63; omega) hk2 (growslice_fits (by omega) hbytes)
      have hge := grownCap_ge w (n + k) cap e
      have hcm2 : grownCap w (n + k) cap e ≤ maxLen := grownCap_le_maxLen w (n + k) cap e h63
      refine ⟨_, _, hr, ⟨hlen, .inr ⟨w.heap.size, _, _, rfl, hbase, heap_alloc_new w.drew _, hge, hcm2, ?_, ?_⟩⟩, ⟨rfl, rfl, rfl, by simp, fun j hj _ => Below.heap_alloc _ _ _ hj⟩⟩
      · simp only [Array.size_append, List.size_toArray, size_zeroCells, hzc, hown.1]
        simp
        omega
      · simp only [Array.toList_append, hzc, zeroCells_one]
        rw [← hlen]
        exact List.take_left
theorem run_append_zeros_nought {P : Program} (w : World) (t tn ty e : TypeId) (i : TypeInfo) (kq kn : IntKind) (ht : P.underlying t = some (.slice e)) (htn : P.underlying tn = some (.int kn)) (hi : P.info? e = some i)
    (ao : Option Addr) (n cap : Nat) (hn : n ≤ cap) :
    (Builtin.append_ #[t, tn] ty #[.slice ao n cap, .int kq 0]).run P w = .ok (.slice ao n cap) w := by
  have hw : IntKind.i64.wrap 0 = 0 := by rw [IntKind.wrap_i64]; omega
  simp [Builtin.append_, run_underlying ht, run_underlying htn, sizeOf, typeInfo, hi, asInt, asIntOf, hw, hn]
  cases ao with
  | none => rfl
  | some a => simp [storeCells]
end Go.Proofs.Ytbcfpiahhippaaa

/- SHA-256 as plain numbers: words are naturals below 2^32, bytes are ints. -/
namespace Go.Proofs.Ytbcfpiahhippaaa

def w32 : Nat := 4294967296
/-- with what falls out coming in at the top -/
def rotw (x n : Nat) : Nat := (x / 2 ^ n) ||| (x * 2 ^ (32 - n) % 4294967296)
def shK : List Nat := [0x428a2f98, 0x71374491, 0xb5c0fbcf, 0xe9b5dba5, 0x3956c25b, 0x59f111f1, 0x923f82a4, 0xab1c5ed5,
  0xd807aa98, 0x12835b01, 0x243185be, 0x550c7dc3, 0x72be5d74, 0x80deb1fe, 0x9bdc06a7, 0xc19bf174,
  0xe49b69c1, 0xefbe4786, 0x0fc19dc6, 0x240ca1cc, 0x2de92c6f, 0x4a7484aa, 0x5cb0a9dc, 0x76f988da,
  0x983e5152, 0xa831c66d, 0xb00327c8, 0xbf597fc7, 0xc6e00bf3, 0xd5a79147, 0x06ca6351, 0x14292967,
  0x27b70a85, 0x2e1b2138, 0x4d2c6dfc, 0x53380d13, 0x650a7354, 0x766a0abb, 0x81c2c92e, 0x92722c85,
  0xa2bfe8a1, 0xa81a664b, 0xc24b8b70, 0xc76c51a3, 0xd192e819, 0xd6990624, 0xf40e3585, 0x106aa070,
  0x19a4c116, 0x1e376c08, 0x2748774c, 0x34b0bcb5, 0x391c0cb3, 0x4ed8aa4a, 0x5b9cca4f, 0x682e6ff3,
  0x748f82ee, 0x78a5636f, 0x84c87814, 0x8cc70208, 0x90befffa, 0xa4506ceb, 0xbef9a3f7, 0xc67178f2]
def shH : List Nat := [0x6a09e667, 0xbb67ae85, 0x3c6ef372, 0xa54ff53a, 0x510e527f, 0x9b05688c, 0x1f83d9ab, 0x5be0cd19]
def sg0 (y : Nat) : Nat := rotw y 7 ^^^ rotw y 18 ^^^ (y / 8)
def sg1 (x : Nat) : Nat := rotw x 17 ^^^ rotw x 19 ^^^ (x / 1024)
def Sg0 (a : Nat) : Nat := rotw a 2 ^^^ rotw a 13 ^^^ rotw a 22
def Sg1 (e : Nat) : Nat := rotw e 6 ^^^ rotw e 11 ^^^ rotw e 25
def chw (e f g : Nat) : Nat := (e &&& f) ^^^ ((4294967295 - e) &&& g)
def majw (a b c : Nat) : Nat := (a &&& b) ^^^ (a &&& c) ^^^ (b &&& c)
/-- the word that four bytes are, the highest first -/
def wd4 (b : List Int) (t : Nat) : Nat := (b.getD (4 * t) 0).toNat * 16777216 + (b.getD (4 * t + 1) 0).toNat * 65536 + (b.getD (4 * t + 2) 0).toNat * 256 + (b.getD (4 * t + 3) 0).toNat
/-- the next word -/
def nextw (w : List Nat) : Nat := (sg1 (w.getD (w.length - 2) 0) + w.getD (w.length - 7) 0 + sg0 (w.getD (w.length - 15) 0) + w.getD (w.length - 16) 0) % 4294967296
def wext : Nat → List Nat → List Nat
  | 0, w => w
  | n + 1, w => wext n (w ++ [nextw w])
/-- the 64 words of 64 bytes -/
def wds (b : List Int) : List Nat := wext 48 ((List.range 16).map (wd4 b))
/-- one of the 64 rounds -/
def rnd (s : List Nat) (k w : Nat) : List Nat :=
  [(s.getD 7 0 + Sg1 (s.getD 4 0) + chw (s.getD 4 0) (s.getD 5 0) (s.getD 6 0) + k + w + Sg0 (s.getD 0 0) + majw (s.getD 0 0) (s.getD 1 0) (s.getD 2 0)) % 4294967296,
   s.getD 0 0, s.getD 1 0, s.getD 2 0, (s.getD 3 0 + s.getD 7 0 + Sg1 (s.getD 4 0) + chw (s.getD 4 0) (s.getD 5 0) (s.getD 6 0) + k + w) % 4294967296, s.getD 4 0, s.getD 5 0, s.getD 6 0]
def rnds (s : List Nat) (w : List Nat) (t : Nat) : List Nat := (List.range t).foldl (fun s i => rnd s (shK.getD i 0) (w.getD i 0)) s
/-- a state goes through 64 bytes -/
def thru (s : List Nat) (b : List Int) : List Nat := (List.range 8).map fun i => (s.getD i 0 + (rnds s (wds b) 64).getD i 0) % 4294967296
def zpad (n : Nat) : Nat := (119 - n % 64) % 64
/-- eight bytes, the highest first -/
def be8 (v : Nat) : List Int := (List.range 8).map fun i => ((v / 256 ^ (7 - i) % 256 : Nat) : Int)
def be4 (v : Nat) : List Int := (List.range 4).map fun i => ((v / 256 ^ (3 - i) % 256 : Nat) : Int)
def padS (b : List Int) : List Int := b ++ 128 :: (List.replicate (zpad b.length) 0 ++ be8 (8 * b.length))
/-- so many pieces -/
def thrus (s : List Nat) (p : List Int) (k : Nat) : List Nat := (List.range k).foldl (fun s i => thru s ((p.drop (64 * i)).take 64)) s
def SHA (b : List Int) : List Int := (thrus shH (padS b) ((padS b).length / 64)).flatMap be4

theorem zpad_len (n : Nat) : (n + 1 + zpad n) % 64 = 56 := by unfold zpad; omega
theorem be8_len (v : Nat) : (be8 v).length = 8 := by simp [be8]
theorem padS_len (b : List Int) : (padS b).length = b.length + 1 + zpad b.length + 8 := by
  unfold padS; simp only [List.length_append, List.length_cons, List.length_replicate, be8_len]; omega
theorem padS_mod (b : List Int) : (padS b).length % 64 = 0 := by
  rw [padS_len]; have := zpad_len b.length; omega
theorem rnd_len (s : List Nat) (k w : Nat) : (rnd s k w).length = 8 := rfl
theorem thru_len (s : List Nat) (b : List Int) : (thru s b).length = 8 := by simp [thru]
theorem rnds_succ (s : List Nat) (w : List Nat) (t : Nat) : rnds s w (t + 1) = rnd (rnds s w t) (shK.getD t 0) (w.getD t 0) := by
  unfold rnds; rw [List.range_succ, List.foldl_append]; rfl
theorem thrus_succ (s : List Nat) (p : List Int) (k : Nat) : thrus s p (k + 1) = thru (thrus s p k) ((p.drop (64 * k)).take 64) := by
  unfold thrus; rw [List.range_succ, List.foldl_append]; rfl
theorem thrus_zero (s : List Nat) (p : List Int) : thrus s p 0 = s := rfl
theorem thru_lt (s : List Nat) (b : List Int) : ∀ x ∈ thru s b, x < 4294967296 := by
  intro x hx
  simp only [thru, List.mem_map] at hx
  obtain ⟨i, _, rfl⟩ := hx
  exact Nat.mod_lt _ (by decide)
theorem thrus_len (p : List Int) (k : Nat) : (thrus shH p k).length = 8 := by
  cases k with
  | zero => rfl
  | succ k => rw [thrus_succ]; exact thru_len _ _
theorem be4_len (v : Nat) : (be4 v).length = 4 := by simp [be4]
theorem flat4_len (l : List Nat) : (l.flatMap be4).length = 4 * l.length := by
  induction l with
  | nil => rfl
  | cons a t ih => rw [List.flatMap_cons, List.length_append, be4_len, ih, List.length_cons]; omega
theorem SHA_len (b : List Int) : (SHA b).length = 32 := by unfold SHA; rw [flat4_len, thrus_len]
theorem be4_range (v : Nat) : ∀ y ∈ be4 v, 0 ≤ y ∧ y ≤ 255 := by
  intro y hy
  simp only [be4, List.mem_map] at hy
  obtain ⟨i, _, rfl⟩ := hy
  have : v / 256 ^ (3 - i) % 256 < 256 := Nat.mod_lt _ (by decide)
  omega
theorem SHA_range (b : List Int) : ∀ y ∈ SHA b, 0 ≤ y ∧ y ≤ 255 := by
  intro y hy
  simp only [SHA, List.mem_flatMap] at hy
  obtain ⟨v, _, h⟩ := hy
  exact be4_range v y h
set_option maxRecDepth 100000 in
theorem SHA_abc : SHA [97, 98, 99] = [186, 120, 22, 191, 143, 1, 207, 234, 65, 65, 64, 222, 93, 174, 34, 35, 176, 3, 97, 163, 150, 23, 122, 156, 180, 16, 255, 97, 242, 0, 21, 173] := by decide +kernel
set_option maxRecDepth 100000 in
theorem SHA_none : SHA [] = [227, 176, 196, 66, 152, 252, 28, 20, 154, 251, 244, 200, 153, 111, 185, 36, 39, 174, 65, 228, 100, 155, 147, 76, 164, 149, 153, 27, 120, 82, 184, 85] := by decide +kernel
/-- what was gone through goes through the rest: pieces that are whole may be taken one by one -/
theorem thrus_app (s : List Nat) (p q : List Int) (j k : Nat) (h : p.length = 64 * j) : thrus s (p ++ q) (j + k) = thrus (thrus s p j) q k := by
  induction k with
  | zero =>
    have : ∀ i, i ≤ j → thrus s (p ++ q) i = thrus s p i := by
      intro i hi
      induction i with
      | zero => rw [thrus_zero, thrus_zero]
      | succ i ih =>
        rw [thrus_succ, thrus_succ, ih (by omega), List.drop_append_of_le_length (by omega), List.take_append_of_le_length (by rw [List.length_drop]; omega)]
    rw [Nat.add_zero, thrus_zero]
    exact this j (Nat.le_refl _)
  | succ k ih =>
    rw [← Nat.add_assoc, thrus_succ, thrus_succ, ih, List.drop_append, List.drop_of_length_le (by omega), List.nil_append, h, show 64 * (j + k) - 64 * j = 64 * k by omega]
end Go.Proofs.Ytbcfpiahhippaaa
